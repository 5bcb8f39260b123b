/-
  A tree that is set and grown is that of the stakes that it has then, or refused, and as it was; of up to 100 stakes, and 50 turns.
  Conditions: none.
-/
import Derived.Test.YtdpjambejmlppaaDoorLawP
import Derived.Test.YtdpjambejmlppaaDoorOpenA
import Derived.Test.YtdpjambejmlppaaDoorOpenT
import Derived.ShutString
import Derived.Test.YtdpjambejmlppaaDoorFenK
import Derived.Test.YtdpjambejmlppaaDoorTie
import Derived.Test.YtdpjambejmlppaaDoorCards
import Derived.SevenTiedAt
import Derived.ChangeOld
namespace Go.Proofs.YtdpjambejmlppaaDoor.fenTurns
open Go.ChangeShapes Go.WideShapes Go.ChangeAt Go.RowKit
set_option linter.unusedVariables false
set_option linter.unusedSimpArgs false
set_option maxRecDepth 100000

theorem own : ownKnob Tryd.prog.godebug = none := by kernel_rfl
theorem laidOut : laidOutB Tryd.prog = true := by kernel_rfl

/-- A turn, loaded out of its slice. -/
theorem wpList_load_turn {ops : Array Oper} {rest : List Oper} {o : Oper} {a : Act} {w : World} {Q : Exit → Act → World → Prop} (hw : Region.wanted o (yielded ops a.tmps) = true) (x : Operand) (ho : o.op = .load 47 x) (b off : Nat) (hx : a.eval x = .pointer (some ⟨b, off, none⟩)) (p q : Int) (h0 : w.cell? ⟨b, off, none⟩ = some (.int .i64 p)) (h1 : w.cell? ⟨b, off + 1, none⟩ = some (.int .u64 q))
    (h : wpList Tryd.prog ops Q rest (a.put o.dst (.agg #[.int .i64 p, .int .u64 q])) w) : wpList Tryd.prog ops Q (o :: rest) a w := by
  refine wpList_run_gd hw (.agg #[.int .i64 p, .int .u64 q]) w ?_ h
  unfold execOp
  simp only [ho, hx]
  go_simp
theorem zero_turn : ∀ W, (zeroValue 47).run Tryd.prog W = .ok (.agg #[.int .i64 0, .int .u64 0]) W := (zero_of_info (n := 2) (by kernel_rfl)).1
theorem sizedT (u v : Value) : (Tryd.prog.info? 47).map (·.size) = some (#[u, v] : Array Value).size := by kernel_rfl
theorem turn_ones (p q : Int) : (#[.int .i64 p, .int .u64 q] : Array Value).all (·.oneCell') = true := by simp [Value.oneCell']
theorem size2 (u v x y : Value) : (#[u, v] : Array Value).size = (#[x, y] : Array Value).size := rfl
theorem pair_c0 {w : World} {g : Nat} {t : TypeId} {u v : Value} (h : Blk w g t #[u, v]) : w.cell? ⟨g, 0, none⟩ = some u := by rw [h.cell]; rfl
theorem pair_c1 {w : World} {g : Nat} {t : TypeId} {u v : Value} (h : Blk w g t #[u, v]) : w.cell? ⟨g, 1, none⟩ = some v := by rw [h.cell]; rfl
theorem ne_blk {w : World} {g : Nat} {t : TypeId} {cs : Array Value} (h : Blk w g t cs) : g ≠ w.heap.size := Nat.ne_of_lt h.lt
theorem fx3 {w0 w : World} {A B : Option Addr} {n m : Nat} {xs ys : List Int} (h1 : Rd .u64 w w.heap.size A n xs) (h2 : Rd .u64 w w.heap.size B m ys) (h3 : Below w0.heap.size w0 w) : Fx [.rd .u64 A n xs, .rd .u64 B m ys, .bel w0] w := ⟨h1, h2, h3, trivial⟩
theorem off3 {w0 : World} {A B C : Option Addr} {n m k c g : Nat} {xs ys : List Int} (h : w0.heap.size ≤ g) : Fx.off g #[.slice C k c] [.rd .u64 A n xs, .rd .u64 B m ys, .bel w0] := ⟨noint_slice _ _ _ _, noint_slice _ _ _ _, h, trivial⟩
theorem step_build0 {ops : Array Oper} {o : Oper} {a : Act} {w : World} {K : Act → World → Prop} {Q : Exit → Act → World → Prop} {E : Prop} (d : Option Tmp) (hd : o.dst = d) (hw : Region.wanted o (yielded ops a.tmps) = true) (ho : o.op = .buildSlice 22 0 #[]) (base : Nat) (hb : base ≤ w.heap.size)
    (h : ∀ g w', g = w.heap.size → OwnI w' base 32 .u64 (.slice (some ⟨g, 0, none⟩) 0 0) [] → Below w.heap.size w w' → K (a.put d (.slice (some ⟨g, 0, none⟩) 0 0)) w') :
    if Region.wanted o (yielded ops a.tmps) = true then Oper.wp Tryd.prog o a w K Q else E := by
  subst hd
  rw [if_pos hw]
  have hr : (Instr.buildSlice 22 0 #[]).run Tryd.prog w = .ok (.slice (some ⟨w.heap.size, 0, none⟩) 0 0) (w.alloc (.cells #[] 32)) := by go_simp
  have he : (execOp a.eval o).run Tryd.prog w = .ok (.value (.slice (some ⟨w.heap.size, 0, none⟩) 0 0)) (w.alloc (.cells #[] 32)) := by
    unfold execOp
    simp only [ho, List.map_toArray, List.map_nil]
    change ((Instr.buildSlice 22 0 #[]) >>= fun v => pure (Next.value v)).run Tryd.prog w = _
    simp only [Sem.run_bind, hr, Result.andThen_ok, Sem.run_pure]
  unfold Oper.wp
  rw [he]
  exact h _ _ rfl (own_empty w 32 .u64 hb) ((Below.refl _ _).alloc (Nat.le_refl _) _)
theorem step_build_one {ops : Array Oper} {o : Oper} {a : Act} {w : World} {K : Act → World → Prop} {Q : Exit → Act → World → Prop} {E : Prop} (d : Option Tmp) (hd : o.dst = d) (hw : Region.wanted o (yielded ops a.tmps) = true) (p : Operand) (ho : o.op = .buildSlice 22 1 #[(0, p)])
    (x : Int) (hp : a.eval p = .int .u64 x) (h : ∀ g w', g = w.heap.size → Rd .u64 w' w'.heap.size (some ⟨g, 0, none⟩) 1 [x] → Below w.heap.size w w' → K (a.put d (.slice (some ⟨g, 0, none⟩) 1 1)) w') :
    if Region.wanted o (yielded ops a.tmps) = true then Oper.wp Tryd.prog o a w K Q else E := by
  subst hd
  rw [if_pos hw]
  have he := exec_build_u64 (w := w) p x ho hp
  unfold Oper.wp
  rw [he]
  exact h _ _ rfl (rd_one1 w _ .u64 x) ((Below.refl _ _).alloc (Nat.le_refl _) _)
theorem rd_lt {k : IntKind} {w : World} {B g n off : Nat} {zs : List Int} (h : Rd k w B (some ⟨g, off, none⟩) n zs) (hn : 0 < n) : g < B := by
  obtain ⟨b, o, e, hb, _⟩ := h.2 hn
  injection e with e
  injection e with e1 e2
  omega
theorem own_lt {w : World} {base g n c off : Nat} {e : TypeId} {k : IntKind} {zs : List Int} (h : OwnI w base e k (.slice (some ⟨g, off, none⟩) n c) zs) : g < w.heap.size := by
  rcases h.2 with ⟨h1, _⟩ | ⟨g', cap, cur, h1, h2, h3, _⟩
  · cases h1
  · injection h1 with e1 e2 e3
    injection e1 with e1
    injection e1 with e1 e4
    subst e1
    rcases Nat.lt_or_ge g w.heap.size with h5 | h5
    · exact h5
    · rw [Array.getElem?_eq_none h5] at h3; cases h3
theorem off_nil {g : Nat} {cs : Array Value} : Fx.off g cs [] := trivial
theorem off_blk {g g' : Nat} {t : TypeId} {cs cs' : Array Value} {l : List Fact} (h : g' ≠ g) (h2 : Fx.off g cs l) : Fx.off g cs (.blk g' t cs' :: l) := ⟨h, h2⟩
theorem off_rd {g n m c : Nat} {k : IntKind} {A B : Option Addr} {zs : List Int} {l : List Fact} (h2 : Fx.off g #[.slice B m c] l) : Fx.off g #[.slice B m c] (.rd k A n zs :: l) := ⟨noint_slice _ _ _ _, h2⟩
theorem off_bel {g : Nat} {w0 : World} {cs : Array Value} {l : List Fact} (h : w0.heap.size ≤ g) (h2 : Fx.off g cs l) : Fx.off g cs (.bel w0 :: l) := ⟨h, h2⟩
structure TurnS (w0 : World) (gf : Nat) (l : List Int) (i : Nat) (Af : Option Addr) (cf : Nat) (An : Option Addr) (cn : Nat) (w : World) : Prop where
  blk : Blk w gf 25 #[.slice Af l.length cf]
  rdF : Rd .u64 w w.heap.size Af l.length (treeL l)
  rdN : Rd .u64 w w.heap.size An l.length l
  bel : Below w0.heap.size w0 w
  hz : ∀ z ∈ l, 0 ≤ z ∧ z < 18446744073709551616
  hs : sumL l < 9223372036854775808
  hl : l.length ≤ 100 + i
  cf0 : l.length ≤ cf
  cf1 : cf ≤ maxLen
  le : w0.heap.size ≤ gf
theorem sum_app1 (l : List Int) (v : Int) : (l ++ [v]).length = l.length + 1 := by simp
set_option maxHeartbeats 32000000 in
theorem walk (a0 : Option Addr) (n c : Nat) (zs : List Int) (a1 : Option Addr) (k d : Nat) (ts : List (Int × Int)) (w : World) (hT : TzT w) (hrd : Rd .u64 w w.heap.size a0 n zs) (lc : n ≤ c) (cm : c ≤ maxLen) (hw : ∀ z ∈ zs, (Lit.int .u64 z).wf = true) (hrt : RdPr .i64 .u64 w w.heap.size a1 k ts) (ld : k ≤ d) (dm : d ≤ maxLen) (hwt : ∀ q ∈ ts, (Lit.int .i64 q.1).wf = true ∧ (Lit.int .u64 q.2).wf = true) :
    Calls Tryd.prog 5 #[.slice a0 n c, .slice a1 k d] w fun e w' => e = .returned (.bool true) ∧ Below w.heap.size w w' := by
  have HTT := Lib.hid hT
  clear hT
  obtain ⟨ti, hti, hz00, hz1, hzb⟩ := info_parts info_u64d
  have G0 : Hid (Fx [.rdb .u64 w.heap.size a0 n zs, .bel w] w) := Lib.hid ⟨⟨hrd, Nat.le_refl _⟩, Below.refl _ _, trivial⟩
  have hlen := hrd.len
  have hz : ∀ z ∈ zs, 0 ≤ z ∧ z < 18446744073709551616 := fun z h => by
    obtain ⟨h1, h2⟩ := bounds_u64 (hw z h)
    omega
  have HRT := Lib.hid hrt
  have HWT := Lib.hid hwt
  have hkm : (k : Int) ≤ 9223372036854775807 := by unfold maxLen at dm; omega
  clear hrt hwt hw
  by_cases hgn : 100 < n
  · have hg2 : (100 : Int) < (n : Int) := by omega
    clear hrd hz hgn
    go_enter Tryd.func5, Tryd.ntmps5
    go_wp2_with (first
      | (go_at_call 8; (with_reducible refine (alive11_c _ (HTT.out.below (Fx.e1 G0.out))).mono ?_); rintro e w1 ⟨rfl, hbw1⟩; have G2 := Lib.hid (Fx.below G0.out hbw1); clear G0; clear hbw1))
    go_ret
    exact ⟨rfl, (Fx.e1 G2.out)⟩
  have hg2 : (n : Int) ≤ 100 := by omega
  by_cases hgk : 50 < k
  · have hg3 : (50 : Int) < (k : Int) := by omega
    clear hrd hz hgk
    go_enter Tryd.func5, Tryd.ntmps5
    go_wp2_with (first
      | (go_at_call 8; (with_reducible refine (alive11_c _ (HTT.out.below (Fx.e1 G0.out))).mono ?_); rintro e w1 ⟨rfl, hbw1⟩; have G2 := Lib.hid (Fx.below G0.out hbw1); clear G0; clear hbw1))
    go_ret
    exact ⟨rfl, (Fx.e1 G2.out)⟩
  have hg3 : (k : Int) ≤ 50 := by omega
  have hn5 : n ≤ 100000000 := by omega
  have hnm : n ≤ maxLen := by simp only [maxLen]; omega
  by_cases hs : sumL zs < 9223372036854775808
  · have e := bldE_ok (l := zs) (by omega) hs
    have h1 := fun A c W hT h => calls_fen (q11build_c zs hz A n c hnm W hT h) e.2 e.1 ((treeL_len zs).trans hlen)
    obtain ⟨T0, hT0⟩ : ∃ x, treeL zs = x := ⟨_, rfl⟩
    rw [hT0] at h1
    have H1 := Lib.hid h1
    have H5 := Lib.hid hn5
    have HL := Lib.hid hlen
    have HT0 := Lib.hid hT0
    have HZ := Lib.hid hz
    have HS := Lib.hid hs
    clear h1 hT0 e hrd hlen hz hs lc cm
    go_enter Tryd.func5, Tryd.ntmps5
    go_wp2_with (first
      | (go_at_call 8; (with_reducible refine (alive11_c _ (HTT.out.below (Fx.e1 G0.out))).mono ?_); rintro e w1 ⟨rfl, hbw1⟩; have G2 := Lib.hid (Fx.below G0.out hbw1); clear G0; clear hbw1)
      | (go_at_call 9; (with_reducible refine (H1.out _ _ _ (HTT.out.below (Fx.e1 G2.out)) (Fx.r0 G2.out)).mono ?_); rintro e w3 ⟨A4, c5, rfl, hrw3, hlw3, hmw3, hbw3⟩; have lc5 := Lib.hid hlw3; have mc5 := Lib.hid hmw3; have G6 := Lib.hid (Fx.addR G2.out hbw3 hrw3); clear G2; clear hrw3 hbw3 hlw3 hmw3; have LE0 := Lib.hid (Below.size (Fx.e2 G6.out)))
      | (with_reducible refine at_any ?_; refine at_dst 5 rfl ?_; refine wpList_alloc_any rfl 25 rfl #[.slice none 0 0] zero_fen ?_; intro w7 hkw7 hsw7 hbw7; have U8 := Lib.hid (Fx.under_new G6.out rfl); have G9 := Lib.hid (Fx.newB G6.out hkw7.out hbw7); clear G6; clear hkw7 hsw7 hbw7)
      | (with_reducible refine at_any ?_; refine at_store 5 rfl ?_; refine wpList_store_any rfl 25 (.tmp 5) (.tmp 30) rfl w3.heap.size rfl 25 #[.slice none 0 0] (#[.slice A4 n c5]) (Fx.b0 G9.out) rfl (size1 _ _) (sizedF _) (fen_ones _ _ _) ?_; intro w10 hkw10 hsw10 hbw10 how10; have G11 := Lib.hid (Fx.put1B G9.out U8.out hkw10.out hsw10.out hbw10 how10); clear G9; clear hkw10 hsw10 hbw10 how10)
      | (with_reducible refine at_any ?_; refine at_dst 40 rfl ?_; refine wpList_own_copy8 w10 rfl (.tmp 38) (.tmp 39) rfl rfl a0 n c zs rfl (Fx.r2 G11.out) H5.out ?_; intro A13 c14 w12 hbw12 hrw12 hlw12 hmw12; rw [HL.out] at hrw12 hlw12 ⊢; have lc14 := Lib.hid hlw12.out; have mc14 := Lib.hid hmw12.out; have G15 := Lib.hid (Fx.addR G11.out hbw12 hrw12); clear G11; clear hrw12 hbw12 hlw12 hmw12))
    obtain ⟨gf, hgf⟩ : ∃ g, w3.heap.size = g := ⟨_, rfl⟩
    have HS0 : Hid (TurnS w gf zs 0 A4 c5 A13 c14 w12) := Lib.hid (by rw [← hgf]; exact ⟨by rw [HL.out]; exact (Fx.b1 G15.out), by rw [HL.out, HT0.out]; exact (Fx.r2 G15.out), by rw [HL.out]; exact (Fx.r0 G15.out), (Fx.e4 G15.out), HZ.out, HS.out, by rw [HL.out]; omega, by rw [HL.out]; exact lc5.out, mc5.out, LE0.out⟩)
    rw [hgf]
    clear hgf LE0 G15 H1 H5 HT0 HZ HS
    go_loopw [7, 8] (fun nv ii wr => ∃ (i : Nat) (l : List Int) (Af : Option Addr) (cf : Nat) (An : Option Addr) (cn : Nat), i ≤ k ∧ ii = .int .i64 (i : Int) ∧ nv = .slice An l.length cn ∧ TurnS w gf l i Af cf An cn wr) (fun _ ii _ => k - (intOf ii).toNat)
    case atStart => exact ⟨0, zs, _, _, _, _, by omega, rfl, by rw [HL.out], HS0.out⟩
    case round =>
      clear HS0
      obtain ⟨i, l, Af, cf, An, cn, hi, rfl, rfl, hSc⟩ := hrel
      obtain ⟨m, hml⟩ : ∃ m, l.length = m := ⟨_, rfl⟩
      obtain ⟨T, hT⟩ : ∃ x, treeL l = x := ⟨_, rfl⟩
      have G1 : Hid (Fx [.blk gf 25 #[.slice Af m cf], .rd .u64 Af m T, .rd .u64 An m l, .bel w] wr) := Lib.hid ⟨by rw [← hml]; exact hSc.blk, by rw [← hml, ← hT]; exact hSc.rdF, by rw [← hml]; exact hSc.rdN, hSc.bel, trivial⟩
      have hz := hSc.hz
      have hz0 : ∀ z ∈ l, 0 ≤ z := fun z h => (hz z h).1
      have hs := hSc.hs
      have hlm := hSc.hl
      rw [hml] at hlm ⊢
      have HLE := Lib.hid hSc.le
      have lcf : Hid (m ≤ cf) := Lib.hid (by rw [← hml]; exact hSc.cf0)
      have mcf := Lib.hid hSc.cf1
      have HML := Lib.hid hml
      have HTL := Lib.hid hT
      by_cases hlt : i < k
      · have hlt2 : (i : Int) < (k : Int) := by omega
        obtain ⟨tb, toff, ha1, -, hct⟩ := (HRT.out.below hSc.bel).2 (by omega)
        subst ha1
        have hc0 := (hct i hlt).1
        have hc1 := (hct i hlt).2
        have hmem : ts.getD i (0, 0) ∈ ts := by
          have := HRT.out.1
          rw [List.getD_eq_getElem?_getD, List.getElem?_eq_getElem (by omega)]
          exact List.getElem_mem _
        have hbd := HWT.out _ hmem
        obtain ⟨ta, hta⟩ : ∃ x, (ts.getD i (0, 0)).1 = x := ⟨_, rfl⟩
        obtain ⟨v, hv⟩ : ∃ x, (ts.getD i (0, 0)).2 = x := ⟨_, rfl⟩
        rw [hta] at hc0 hbd
        rw [hv] at hc1 hbd
        have t0 : -9223372036854775808 ≤ ta := by have := (bounds_i64 hbd.1).1; omega
        have t1 : ta < 9223372036854775808 := by have := (bounds_i64 hbd.1).2; omega
        have v0 : 0 ≤ v := (bounds_u64 hbd.2).1
        have v1 : v < 18446744073709551616 := by have := (bounds_u64 hbd.2).2; omega
        clear hbd
        have hTl : T.length = m := by rw [← hT, treeL_len, hml]
        have HLT := Lib.hid hTl
        have HM : Hid (m ≤ 1000) := Lib.hid (by omega)
        have HM5 : Hid (m ≤ 100000000) := Lib.hid (by omega)
        have HSW := Lib.hid (fun A B c d W h h' => calls_val (v' := .bool true) (r9same_c T T A B m m c d (by simp only [maxLen]; omega) (by simp only [maxLen]; omega) W h h') (congrArg Value.bool (decide_eq_true rfl)))
        have HST2 : Hid (∀ W, Blk W gf 25 #[.slice Af l.length cf] → Rd .u64 W W.heap.size Af l.length (treeL l) → Rd .u64 W W.heap.size An l.length l → Below w.heap.size w W → TurnS w gf l (i + 1) Af cf An cn W) := Lib.hid (fun W h1 h2 h3 h4 => ⟨h1, h2, h3, h4, hz, hs, by omega, hSc.cf0, hSc.cf1, hSc.le⟩)
        have hSc2 := hSc.hl
        by_cases hneg : ta < 0
        · clear hTl hSc2
          obtain ⟨l2, hl2⟩ : ∃ x, l ++ [v] = x := ⟨_, rfl⟩
          obtain ⟨m2, hml2⟩ : ∃ x, l2.length = x := ⟨_, rfl⟩
          have hm2 : m2 = m + 1 := by rw [← hml2, ← hl2, List.length_append, hml]; rfl
          have hz2 : ∀ z ∈ l2, 0 ≤ z ∧ z < 18446744073709551616 := fun z h => by
            rw [← hl2] at h
            rcases List.mem_append.1 h with h | h
            · exact hz z h
            · rw [List.mem_singleton.1 h]; exact ⟨v0, v1⟩
          have hz20 : ∀ z ∈ l2, 0 ≤ z := fun z h => (hz2 z h).1
          have HL2 := Lib.hid hl2
          have HMX : Hid ((l ++ [v]).length = m2) := Lib.hid (by rw [hl2]; exact hml2)
          by_cases hs2 : sumL l2 < 9223372036854775808
          · have e := grw_ok (l := l) (v := v) (by omega) (by rw [hl2]; exact hs2)
            rw [hl2] at e
            have hg := fun A c (hc : m ≤ c) (hm : c ≤ maxLen) W hT h => calls_fen (q11grow_c l hz0 hs (by omega) A m c hml hc hm v v0 v1 W hT h) (congrArg treeL e.2) e.1 ((treeL_len _).trans hml2)
            rw [hT] at hg
            have hto := fun A c W h => calls_pure (r9total_c l2 hz2 A m2 c (by simp only [maxLen]; omega) W h) (tup_ub (sumV_ok hs2).1 (sumV_ok hs2).2)
            obtain ⟨x, hx⟩ : ∃ x, sumL l2 = x := ⟨_, rfl⟩
            rw [hx] at hto
            have HTO := Lib.hid hto
            have HTR := Lib.hid (fun A c W h => calls_tree (r11tree_c l2 hz20 hs2 A m2 c (by omega) W h) hml2)
            have HSF := Lib.hid (fun A B c d W h h' => calls_val (v' := .bool true) (r11same_c (treeL l2) (treeL l2) A B m2 m2 c d (by simp only [maxLen]; omega) (by simp only [maxLen]; omega) W h h') (congrArg Value.bool (decide_eq_true rfl)))
            have HST3 : Hid (∀ Ag cg Ax, ∀ {cx : Nat}, m2 ≤ cg → cg ≤ maxLen → ∀ {W}, Blk W gf 25 #[.slice Ag l2.length cg] → Rd .u64 W W.heap.size Ag l2.length (treeL l2) → Rd .u64 W W.heap.size Ax l2.length l2 → Below w.heap.size w W → TurnS w gf l2 (i + 1) Ag cg Ax cx W) := Lib.hid (fun Ag cg Ax cx h1 h2 W h3 h4 h5 h6 => ⟨h3, h4, h5, h6, hz2, hs2, by omega, by omega, h2, HLE.out⟩)
            have HML2 := Lib.hid hml2
            obtain ⟨T2, hT2⟩ : ∃ x, treeL l2 = x := ⟨_, rfl⟩
            rw [hT2] at hg
            rw [hT2] at HTR HSF
            have HTL2 := Lib.hid hT2
            have HG := Lib.hid hg
            clear hT2 hml2 hz2 hz20 hs2 hg e hto hx hl2 hm2 hz hz0 hs hml hlm t0 t1 v0 v1 hmem hta hv hct hSc hn5 hnm hgn hgk
            go_wp2_with (first
              | (with_reducible refine at_any ?_; refine at_dst 50 rfl ?_; refine wpList_load_turn (by kernel_rfl) (.tmp 49) rfl tb (toff + i * 2) rfl ta v hc0 hc1 ?_)
              | (with_reducible refine at_any ?_; refine at_dst 9 rfl ?_; refine wpList_alloc_any rfl 47 rfl #[.int .i64 0, .int .u64 0] zero_turn ?_; intro w301 hkw301 hsw301 hbw301; have K9 := Lib.hid hkw301.out; have B9 := Lib.hid hbw301; clear hkw301 hsw301 hbw301)
              | (with_reducible refine at_any ?_; refine at_store 9 rfl ?_; refine wpList_store_any rfl 47 (.tmp 9) (.tmp 50) rfl wr.heap.size rfl 47 #[.int .i64 0, .int .u64 0] #[.int .i64 ta, .int .u64 v] K9.out rfl (size2 _ _ _ _) (sizedT _ _) (turn_ones _ _) ?_; intro w302 hkw302 hsw302 hbw302 how302; have G303 := Lib.hid (Fx.newB G1.out hkw302.out (B9.out.trans (hbw302 _ (Nat.le_refl _)))); clear G1; clear hkw302 hsw302 hbw302 how302; have cf1 := Blk.cell0 (Blk.alloc (Fx.b1 G303.out) (.cells #[] 32)))
              | (with_reducible refine at_any ?_; refine at_dst 54 rfl ?_; refine wpList_own_copy8 w302 rfl (.tmp 51) (.tmp 53) rfl rfl Af m cf T rfl (Fx.s2 G303.out) HM5.out ?_; intro A305 c306 w304 hbw304 hrw304 hlw304 hmw304; rw [HLT.out] at hrw304 hlw304 ⊢; have lc306 := Lib.hid hlw304.out; have mc306 := Lib.hid hmw304.out; have G307 := Lib.hid (Fx.addS G303.out hbw304 hrw304); clear G303; clear hrw304 hbw304 hlw304 hmw304)
              | (with_reducible refine at_any ?_; refine at_dst 11 rfl ?_; refine wpList_alloc_any rfl 25 rfl #[.slice none 0 0] zero_fen ?_; intro w308 hkw308 hsw308 hbw308; have K11 := Lib.hid hkw308.out; have N11f := Lib.hid (ne_blk (Fx.b2 G307.out)); have N11t := Lib.hid (ne_blk (Fx.b1 G307.out)); have L11 := Lib.hid (Below.size (Fx.e5 G307.out)); have G309 := Lib.hid (Fx.below G307.out hbw308); clear G307; have ct0 := pair_c0 (Fx.b1 G309.out); have ct1 := pair_c1 (Fx.b1 G309.out); clear hkw308 hsw308 hbw308)
              | (with_reducible refine at_any ?_; refine at_dst 59 rfl ?_; refine wpList_load_fen (by kernel_rfl) (.tmp 5) rfl gf rfl 25 (.slice Af m cf) (Fx.b2 G309.out) ?_)
              | (go_at_call 21; (with_reducible refine (HG.out _ _ lcf.out mcf.out _ (HTT.out.below (Fx.e5 G309.out)) (Fx.s3 G309.out)).mono ?_); rintro e w310 ⟨A311, c312, rfl, hrw310, hlw310, hmw310, hbw310⟩; have lc312 := Lib.hid hlw310; have mc312 := Lib.hid hmw310; have G313 := Lib.hid (Fx.addS G309.out hbw310 hrw310); clear G309; have K12 := Lib.hid (K11.out.below hbw310 K11.out.lt); clear hrw310 hbw310 hlw310 hmw310)
              | (with_reducible refine at_any ?_; refine at_store 11 rfl ?_; refine wpList_store_any rfl 25 (.tmp 11) (.tmp 63) rfl w304.heap.size rfl 25 #[.slice none 0 0] #[.slice A311 m2 c312] K12.out rfl (size1 _ _) (sizedF _) (fen_ones _ _ _) ?_; intro w314 hkw314 hsw314 hbw314 how314; have G315 := Lib.hid (Fx.storeN G313.out K12.out (off_rd (off_rd (off_blk N11t.out (off_blk N11f.out (off_rd (off_rd (off_bel L11.out (off_nil)))))))) hkw314.out hsw314.out hbw314 how314); clear G313; clear hkw314 hsw314 hbw314 how314))
            have HST : Hid (∀ W, Below w314.heap.size w314 W → W.cell? ⟨wr.heap.size, 1, none⟩ = some (.int .u64 v)) := Lib.hid (fun W h => pair_c1 (Blk.below (Fx.b3 G315.out) h (Blk.lt (Fx.b3 G315.out))))
            have HNW : Hid (∀ W, Below w314.heap.size w314 W → Rd .u64 W W.heap.size An m l) := Lib.hid (fun W h => HR1 (Fx.s6 G315.out) h)
            refine wp_region_held_drew (S := (fun W => Below w314.heap.size w314 W)) (by kernel_rfl) (Below.refl _ _).drew (fun hH => ?_)
            refine wpAnyH_letter #[false, false, false, false, false, false, false, false] (by kernel_rfl) (fun _ _ d _ _ h => by cases d <;> exact h) (fun QL HQ1 HQ2 => ?_)
            refine held_v 1 (some 66) rfl (by kernel_rfl) (by kernel_rfl) (by kernel_rfl) (by kernel_rfl) (fun c a v w h => HQ2.out c a _ v w h) (by kernel_rfl) (.slice An m cn) (fun W h => by kernel_rfl) hH ?_
            try simp only [Act.put, List.setIfInBounds_toArray, List.set_cons_zero, List.set_cons_succ]
            refine held_v 3 (some 68) rfl (by kernel_rfl) (by kernel_rfl) (by kernel_rfl) (by kernel_rfl) (fun c a v w h => HQ2.out c a _ v w h) (by kernel_rfl) (.pointer (some ⟨wr.heap.size, 1, none⟩)) (fun W h => by kernel_rfl) hH ?_
            try simp only [Act.put, List.setIfInBounds_toArray, List.set_cons_zero, List.set_cons_succ]
            refine held_v 4 (some 69) rfl (by kernel_rfl) (by kernel_rfl) (by kernel_rfl) (by kernel_rfl) (fun c a v w h => HQ2.out c a _ v w h) (by kernel_rfl) (.int .u64 v) (fun W h => by have p := HST.out W h; go_simp) hH ?_
            try simp only [Act.put, List.setIfInBounds_toArray, List.set_cons_zero, List.set_cons_succ]
            refine wpAnyH_ready (rs := [0, 5]) (by kernel_rfl) (by decide) ?_
            refine AllReadyH.cons rfl (fun K hK => ?_) (AllReadyH.cons rfl (fun K hK => ?_) AllReadyH.nil)
            · refine step_build0 (some 65) (by kernel_rfl) (by kernel_rfl) rfl w314.heap.size hH.size ?_
              intro gr602 w601 hew601 how601 hbw601
              refine hK.out _ _ (hH.trans (hbw601.mono hH.size)) (fun hw601 => ?_)
              clear hK K
              try simp only [Act.put, List.setIfInBounds_toArray, List.set_cons_zero, List.set_cons_succ]
              refine wpAnyH_ready (rs := [2, 5]) (by kernel_rfl) (by decide) ?_
              refine AllReadyH.cons rfl (fun K hK => ?_) (AllReadyH.cons rfl (fun K hK => ?_) AllReadyH.nil)
              · refine step_append_d w601 (some 67) rfl rfl (.tmp 65) (.tmp 66) 22 rfl w314.heap.size 32 ti _ 8 .u64 Tryd.underlying22 hti hz00 hz1 hzb rfl _ [] (by kernel_rfl) how601 w601.heap.size An m cn l (by kernel_rfl) (HNW.out _ hw601) (by have p := HM.out; simp only [List.length_nil, maxLen]; omega) (by have p := HM.out; simp only [List.length_nil]; omega) hw601.size ?_
                intro vw603 w603 how603 hgw603 hatw603
                rw [List.nil_append] at how603
                have hbbw603 := how601.below_ hw601 hw601.size hgw603
                obtain ⟨Aw603, cw603, rfl, -, -⟩ := how603.form
                refine hK.out _ _ hbbw603 (fun hw603 => ?_)
                clear hK K
                try simp only [Act.put, List.setIfInBounds_toArray, List.set_cons_zero, List.set_cons_succ]
                refine wpAnyH_ready (rs := [5]) (by kernel_rfl) (by decide) ?_
                refine AllReadyH.cons rfl (fun K hK => ?_) AllReadyH.nil
                refine step_build_one (some 70) (by kernel_rfl) (by kernel_rfl) (.tmp 69) rfl v (by kernel_rfl) ?_
                intro gr606 w605 hew605 hrw605 hbw605
                have ex607 := how603.below hbw605
                refine hK.out _ _ (hw603.trans (hbw605.mono hw603.size)) (fun hw605 => ?_)
                clear hK K
                try simp only [Act.put, List.setIfInBounds_toArray, List.set_cons_zero, List.set_cons_succ]
                refine wpAnyH_ready (rs := [6]) (by kernel_rfl) (by decide) ?_
                refine AllReadyH.cons rfl (fun K hK => ?_) AllReadyH.nil
                refine step_append_d w605 (some 71) rfl rfl (.tmp 67) (.tmp 70) 22 rfl w314.heap.size 32 ti _ 8 .u64 Tryd.underlying22 hti hz00 hz1 hzb rfl _ l (by kernel_rfl) ex607 w605.heap.size (some ⟨gr606, 0, none⟩) 1 1 [v] (by kernel_rfl) hrw605 (by have p := HM.out; have p2 := HML.out; simp only [maxLen]; omega) (by have p := HM.out; have p2 := HML.out; omega) hw605.size ?_
                intro vw608 w608 how608 hgw608 hatw608
                have hbbw608 := ex607.below_ hw605 hw605.size hgw608
                obtain ⟨Aw608, cw608, rfl, hlw608, hmw608⟩ := how608.form
                refine hK.out _ _ hbbw608 (fun hw608 => ?_)
                clear hK K
                try simp only [Act.put, List.setIfInBounds_toArray, List.set_cons_zero, List.set_cons_succ]
                refine held_v 7 (some 14) rfl (by kernel_rfl) (by kernel_rfl) (by kernel_rfl) (by kernel_rfl) (fun c a v w h => HQ2.out c a _ v w h) (by kernel_rfl) (.slice Aw608 (l ++ [v]).length cw608) (fun W h => by kernel_rfl) hw608 ?_
                try simp only [Act.put, List.setIfInBounds_toArray, List.set_cons_zero, List.set_cons_succ]
                refine wpAnyH_done (by kernel_rfl) ?_ _
                refine HQ1.out _ _ ?_
                clear HQ1 HQ2
                have hrx := how608.rd rfl
                rw [HMX.out, HL2.out] at hrx
                have G20 := Lib.hid (Fx.addS G315.out hw608 hrx)
                rw [HMX.out] at hlw608 ⊢
                have lcw608 := Lib.hid hlw608
                have HB20 := Lib.hid hw608
                have cf2 := Blk.cell0 (Fx.b5 G20.out)
                try clear HST HNW
                go_wp2_with (first
                  | (go_at_call 13; (with_reducible refine (HTO.out _ _ _ (Fx.s0 G20.out)).mono ?_); rintro e _ ⟨rfl, rfl⟩; have cf2 := Blk.cell0 (Fx.b5 G20.out))
                  | (go_at_call 12; (with_reducible refine (HSW.out _ _ _ _ _ (Fx.s3 G20.out) (Fx.s6 G20.out)).mono ?_); rintro e w501 ⟨rfl, hbw501⟩; have G502 := Lib.hid (Fx.below G20.out hbw501); clear G20; clear hbw501)
                  | (with_reducible refine at_any ?_; refine at_dst 113 rfl ?_; refine wpList_load_fen (by kernel_rfl) (.tmp 11) rfl w304.heap.size rfl 25 (.slice A311 m2 c312) (Fx.b1 G502.out) ?_)
                  | (with_reducible refine at_any ?_; refine at_store 5 rfl ?_; refine wpList_store_any rfl 25 (.tmp 5) (.tmp 113) rfl gf rfl 25 #[.slice Af m cf] #[.slice A311 m2 c312] (Fx.b5 G502.out) rfl (size1 _ _) (sizedF _) (fen_ones _ _ _) ?_; intro w503 hkw503 hsw503 hbw503 how503; have G504 := Lib.hid (Fx.storeN (fx3 (Fx.s2 G502.out) (Fx.s0 G502.out) (Fx.e8 G502.out)) (Fx.b5 G502.out) (off3 HLE.out) hkw503.out hsw503.out hbw503 how503); clear G502; clear hkw503 hsw503 hbw503 how503))
                refine wp_region_held_drew (S := (Fx [.blk gf 25 #[.slice A311 m2 c312], .rd .u64 A311 m2 T2, .rd .u64 Aw608 m2 l2, .bel w])) (by kernel_rfl) (Fx.drew G504.out) (fun hH => ?_)
                refine wpAnyH_letter #[false, false, false, false, false] (by kernel_rfl) (fun _ _ d _ _ h => by cases d <;> exact h) (fun QL HQ1 HQ2 => ?_)
                refine held_row 0 (some 115) rfl (by kernel_rfl) (by kernel_rfl) (by kernel_rfl) (by kernel_rfl) (fun c a v w h => HQ2.out c a _ v w h) (by kernel_rfl) 25 (.tmp 5) rfl gf (by kernel_rfl) 25 #[.slice A311 m2 c312] (fun _ h => h.1) _ Tryd.underlying25 rfl (sizedF _) hH ?_
                try simp only [Act.put, List.setIfInBounds_toArray, List.set_cons_zero, List.set_cons_succ]
                refine held_v 1 (some 116) rfl (by kernel_rfl) (by kernel_rfl) (by kernel_rfl) (by kernel_rfl) (fun c a v w h => HQ2.out c a _ v w h) (by kernel_rfl) (.slice Aw608 m2 cw608) (fun W h => by kernel_rfl) hH ?_
                try simp only [Act.put, List.setIfInBounds_toArray, List.set_cons_zero, List.set_cons_succ]
                refine wpAnyH_ready (rs := [2]) (by kernel_rfl) (by decide) ?_
                refine AllReadyH.cons rfl (fun K hK => ?_) AllReadyH.nil
                refine step_call (some 117) (by kernel_rfl) (by kernel_rfl) _ _ (by kernel_rfl) _ (HTR.out _ cw608 _ (Fx.s2 hH)) ?_
                rintro e w701 ⟨A9, c9, rfl, hr9, hl9, hm9, hbw701⟩
                have ex702 : Rd .u64 w701 w701.heap.size A9 m2 T2 := hr9
                refine ⟨_, rfl, ?_⟩
                refine hK.out _ _ (hH.below hbw701) (fun hw701 => ?_)
                clear hK K
                try simp only [Act.put, List.setIfInBounds_toArray, List.set_cons_zero, List.set_cons_succ]
                refine wpAnyH_ready (rs := [3]) (by kernel_rfl) (by decide) ?_
                refine AllReadyH.cons rfl (fun K hK => ?_) AllReadyH.nil
                refine step_call (some 118) (by kernel_rfl) (by kernel_rfl) _ _ (by kernel_rfl) _ (HSF.out _ _ c312 c9 _ (Fx.s1 hw701) ex702) ?_
                rintro e w703 ⟨rfl, hbw703⟩
                refine ⟨_, rfl, ?_⟩
                refine hK.out _ _ (hw701.below hbw703) (fun hw703 => ?_)
                clear hK K
                try simp only [Act.put, List.setIfInBounds_toArray, List.set_cons_zero, List.set_cons_succ]
                refine held_v 4 (some 119) rfl (by kernel_rfl) (by kernel_rfl) (by kernel_rfl) (by kernel_rfl) (fun c a v w h => HQ2.out c a _ v w h) (by kernel_rfl) (.bool false) (fun W h => by kernel_rfl) hw703 ?_
                try simp only [Act.put, List.setIfInBounds_toArray, List.set_cons_zero, List.set_cons_succ]
                refine wpAnyH_done (by kernel_rfl) ?_ _
                refine HQ1.out _ _ ?_
                clear HQ1 HQ2
                have HF := Lib.hid hw703
                go_wp2_with fail
                go_roundw
                case rel => exact ⟨i + 1, l2, A311, c312, Aw608, cw608, by omega, by go_num, by rw [HML2.out], HST3.out _ _ _ lc312.out mc312.out (by rw [HML2.out]; exact Fx.b0 HF.out) (by rw [HML2.out, HTL2.out]; exact Fx.s1 HF.out) (by rw [HML2.out]; exact Fx.s2 HF.out) (Fx.e3 HF.out)⟩
                case measure => simp [intOf]; omega
              · refine step_build_one (some 70) (by kernel_rfl) (by kernel_rfl) (.tmp 69) rfl v (by kernel_rfl) ?_
                intro gr611 w610 hew610 hrw610 hbw610
                have ex612 : gr611 ≠ gr602 := by have := own_lt how601; omega
                have ex613 := how601.below hbw610
                refine hK.out _ _ (hw601.trans (hbw610.mono hw601.size)) (fun hw610 => ?_)
                clear hK K
                try simp only [Act.put, List.setIfInBounds_toArray, List.set_cons_zero, List.set_cons_succ]
                refine wpAnyH_ready (rs := [2]) (by kernel_rfl) (by decide) ?_
                refine AllReadyH.cons rfl (fun K hK => ?_) AllReadyH.nil
                refine step_append_d w610 (some 67) rfl rfl (.tmp 65) (.tmp 66) 22 rfl w314.heap.size 32 ti _ 8 .u64 Tryd.underlying22 hti hz00 hz1 hzb rfl _ [] (by kernel_rfl) ex613 w610.heap.size An m cn l (by kernel_rfl) (HNW.out _ hw610) (by have p := HM.out; simp only [List.length_nil, maxLen]; omega) (by have p := HM.out; simp only [List.length_nil]; omega) hw610.size ?_
                intro vw614 w614 how614 hgw614 hatw614
                rw [List.nil_append] at how614
                have hbbw614 := ex613.below_ hw610 hw610.size hgw614
                have ex616 := (Rd.grownA hrw610 (fun b off _ hA => by injection hA with hA; injection hA with hA _; subst hA; intro hx; injection hx with hx; exact ex612 hx.symm) (Nat.le_refl _) hgw614).mono (show w610.heap.size ≤ w614.heap.size from hgw614.size)
                obtain ⟨Aw614, cw614, rfl, -, -⟩ := how614.form
                refine hK.out _ _ hbbw614 (fun hw614 => ?_)
                clear hK K
                try simp only [Act.put, List.setIfInBounds_toArray, List.set_cons_zero, List.set_cons_succ]
                refine wpAnyH_ready (rs := [6]) (by kernel_rfl) (by decide) ?_
                refine AllReadyH.cons rfl (fun K hK => ?_) AllReadyH.nil
                refine step_append_d w614 (some 71) rfl rfl (.tmp 67) (.tmp 70) 22 rfl w314.heap.size 32 ti _ 8 .u64 Tryd.underlying22 hti hz00 hz1 hzb rfl _ l (by kernel_rfl) how614 w614.heap.size (some ⟨gr611, 0, none⟩) 1 1 [v] (by kernel_rfl) ex616 (by have p := HM.out; have p2 := HML.out; simp only [maxLen]; omega) (by have p := HM.out; have p2 := HML.out; omega) hw614.size ?_
                intro vw617 w617 how617 hgw617 hatw617
                have hbbw617 := how614.below_ hw614 hw614.size hgw617
                obtain ⟨Aw617, cw617, rfl, hlw617, hmw617⟩ := how617.form
                refine hK.out _ _ hbbw617 (fun hw617 => ?_)
                clear hK K
                try simp only [Act.put, List.setIfInBounds_toArray, List.set_cons_zero, List.set_cons_succ]
                refine held_v 7 (some 14) rfl (by kernel_rfl) (by kernel_rfl) (by kernel_rfl) (by kernel_rfl) (fun c a v w h => HQ2.out c a _ v w h) (by kernel_rfl) (.slice Aw617 (l ++ [v]).length cw617) (fun W h => by kernel_rfl) hw617 ?_
                try simp only [Act.put, List.setIfInBounds_toArray, List.set_cons_zero, List.set_cons_succ]
                refine wpAnyH_done (by kernel_rfl) ?_ _
                refine HQ1.out _ _ ?_
                clear HQ1 HQ2
                have hrx := how617.rd rfl
                rw [HMX.out, HL2.out] at hrx
                have G20 := Lib.hid (Fx.addS G315.out hw617 hrx)
                rw [HMX.out] at hlw617 ⊢
                have lcw617 := Lib.hid hlw617
                have HB20 := Lib.hid hw617
                have cf2 := Blk.cell0 (Fx.b5 G20.out)
                try clear HST HNW
                go_wp2_with (first
                  | (go_at_call 13; (with_reducible refine (HTO.out _ _ _ (Fx.s0 G20.out)).mono ?_); rintro e _ ⟨rfl, rfl⟩; have cf2 := Blk.cell0 (Fx.b5 G20.out))
                  | (go_at_call 12; (with_reducible refine (HSW.out _ _ _ _ _ (Fx.s3 G20.out) (Fx.s6 G20.out)).mono ?_); rintro e w501 ⟨rfl, hbw501⟩; have G502 := Lib.hid (Fx.below G20.out hbw501); clear G20; clear hbw501)
                  | (with_reducible refine at_any ?_; refine at_dst 113 rfl ?_; refine wpList_load_fen (by kernel_rfl) (.tmp 11) rfl w304.heap.size rfl 25 (.slice A311 m2 c312) (Fx.b1 G502.out) ?_)
                  | (with_reducible refine at_any ?_; refine at_store 5 rfl ?_; refine wpList_store_any rfl 25 (.tmp 5) (.tmp 113) rfl gf rfl 25 #[.slice Af m cf] #[.slice A311 m2 c312] (Fx.b5 G502.out) rfl (size1 _ _) (sizedF _) (fen_ones _ _ _) ?_; intro w503 hkw503 hsw503 hbw503 how503; have G504 := Lib.hid (Fx.storeN (fx3 (Fx.s2 G502.out) (Fx.s0 G502.out) (Fx.e8 G502.out)) (Fx.b5 G502.out) (off3 HLE.out) hkw503.out hsw503.out hbw503 how503); clear G502; clear hkw503 hsw503 hbw503 how503))
                refine wp_region_held_drew (S := (Fx [.blk gf 25 #[.slice A311 m2 c312], .rd .u64 A311 m2 T2, .rd .u64 Aw617 m2 l2, .bel w])) (by kernel_rfl) (Fx.drew G504.out) (fun hH => ?_)
                refine wpAnyH_letter #[false, false, false, false, false] (by kernel_rfl) (fun _ _ d _ _ h => by cases d <;> exact h) (fun QL HQ1 HQ2 => ?_)
                refine held_row 0 (some 115) rfl (by kernel_rfl) (by kernel_rfl) (by kernel_rfl) (by kernel_rfl) (fun c a v w h => HQ2.out c a _ v w h) (by kernel_rfl) 25 (.tmp 5) rfl gf (by kernel_rfl) 25 #[.slice A311 m2 c312] (fun _ h => h.1) _ Tryd.underlying25 rfl (sizedF _) hH ?_
                try simp only [Act.put, List.setIfInBounds_toArray, List.set_cons_zero, List.set_cons_succ]
                refine held_v 1 (some 116) rfl (by kernel_rfl) (by kernel_rfl) (by kernel_rfl) (by kernel_rfl) (fun c a v w h => HQ2.out c a _ v w h) (by kernel_rfl) (.slice Aw617 m2 cw617) (fun W h => by kernel_rfl) hH ?_
                try simp only [Act.put, List.setIfInBounds_toArray, List.set_cons_zero, List.set_cons_succ]
                refine wpAnyH_ready (rs := [2]) (by kernel_rfl) (by decide) ?_
                refine AllReadyH.cons rfl (fun K hK => ?_) AllReadyH.nil
                refine step_call (some 117) (by kernel_rfl) (by kernel_rfl) _ _ (by kernel_rfl) _ (HTR.out _ cw617 _ (Fx.s2 hH)) ?_
                rintro e w701 ⟨A9, c9, rfl, hr9, hl9, hm9, hbw701⟩
                have ex702 : Rd .u64 w701 w701.heap.size A9 m2 T2 := hr9
                refine ⟨_, rfl, ?_⟩
                refine hK.out _ _ (hH.below hbw701) (fun hw701 => ?_)
                clear hK K
                try simp only [Act.put, List.setIfInBounds_toArray, List.set_cons_zero, List.set_cons_succ]
                refine wpAnyH_ready (rs := [3]) (by kernel_rfl) (by decide) ?_
                refine AllReadyH.cons rfl (fun K hK => ?_) AllReadyH.nil
                refine step_call (some 118) (by kernel_rfl) (by kernel_rfl) _ _ (by kernel_rfl) _ (HSF.out _ _ c312 c9 _ (Fx.s1 hw701) ex702) ?_
                rintro e w703 ⟨rfl, hbw703⟩
                refine ⟨_, rfl, ?_⟩
                refine hK.out _ _ (hw701.below hbw703) (fun hw703 => ?_)
                clear hK K
                try simp only [Act.put, List.setIfInBounds_toArray, List.set_cons_zero, List.set_cons_succ]
                refine held_v 4 (some 119) rfl (by kernel_rfl) (by kernel_rfl) (by kernel_rfl) (by kernel_rfl) (fun c a v w h => HQ2.out c a _ v w h) (by kernel_rfl) (.bool false) (fun W h => by kernel_rfl) hw703 ?_
                try simp only [Act.put, List.setIfInBounds_toArray, List.set_cons_zero, List.set_cons_succ]
                refine wpAnyH_done (by kernel_rfl) ?_ _
                refine HQ1.out _ _ ?_
                clear HQ1 HQ2
                have HF := Lib.hid hw703
                go_wp2_with fail
                go_roundw
                case rel => exact ⟨i + 1, l2, A311, c312, Aw617, cw617, by omega, by go_num, by rw [HML2.out], HST3.out _ _ _ lc312.out mc312.out (by rw [HML2.out]; exact Fx.b0 HF.out) (by rw [HML2.out, HTL2.out]; exact Fx.s1 HF.out) (by rw [HML2.out]; exact Fx.s2 HF.out) (Fx.e3 HF.out)⟩
                case measure => simp [intOf]; omega
            · refine step_build_one (some 70) (by kernel_rfl) (by kernel_rfl) (.tmp 69) rfl v (by kernel_rfl) ?_
              intro gr620 w619 hew619 hrw619 hbw619
              refine hK.out _ _ (hH.trans (hbw619.mono hH.size)) (fun hw619 => ?_)
              clear hK K
              try simp only [Act.put, List.setIfInBounds_toArray, List.set_cons_zero, List.set_cons_succ]
              refine wpAnyH_ready (rs := [0]) (by kernel_rfl) (by decide) ?_
              refine AllReadyH.cons rfl (fun K hK => ?_) AllReadyH.nil
              refine step_build0 (some 65) (by kernel_rfl) (by kernel_rfl) rfl w314.heap.size hw619.size ?_
              intro gr622 w621 hew621 how621 hbw621
              have ex623 : gr620 ≠ gr622 := by have := rd_lt hrw619 (by omega); omega
              have ex624 := HR1 hrw619 hbw621
              refine hK.out _ _ (hw619.trans (hbw621.mono hw619.size)) (fun hw621 => ?_)
              clear hK K
              try simp only [Act.put, List.setIfInBounds_toArray, List.set_cons_zero, List.set_cons_succ]
              refine wpAnyH_ready (rs := [2]) (by kernel_rfl) (by decide) ?_
              refine AllReadyH.cons rfl (fun K hK => ?_) AllReadyH.nil
              refine step_append_d w621 (some 67) rfl rfl (.tmp 65) (.tmp 66) 22 rfl w314.heap.size 32 ti _ 8 .u64 Tryd.underlying22 hti hz00 hz1 hzb rfl _ [] (by kernel_rfl) how621 w621.heap.size An m cn l (by kernel_rfl) (HNW.out _ hw621) (by have p := HM.out; simp only [List.length_nil, maxLen]; omega) (by have p := HM.out; simp only [List.length_nil]; omega) hw621.size ?_
              intro vw625 w625 how625 hgw625 hatw625
              rw [List.nil_append] at how625
              have hbbw625 := how621.below_ hw621 hw621.size hgw625
              have ex627 := (Rd.grownA ex624 (fun b off _ hA => by injection hA with hA; injection hA with hA _; subst hA; intro hx; injection hx with hx; exact ex623 hx.symm) (Nat.le_refl _) hgw625).mono (show w621.heap.size ≤ w625.heap.size from hgw625.size)
              obtain ⟨Aw625, cw625, rfl, -, -⟩ := how625.form
              refine hK.out _ _ hbbw625 (fun hw625 => ?_)
              clear hK K
              try simp only [Act.put, List.setIfInBounds_toArray, List.set_cons_zero, List.set_cons_succ]
              refine wpAnyH_ready (rs := [6]) (by kernel_rfl) (by decide) ?_
              refine AllReadyH.cons rfl (fun K hK => ?_) AllReadyH.nil
              refine step_append_d w625 (some 71) rfl rfl (.tmp 67) (.tmp 70) 22 rfl w314.heap.size 32 ti _ 8 .u64 Tryd.underlying22 hti hz00 hz1 hzb rfl _ l (by kernel_rfl) how625 w625.heap.size (some ⟨gr620, 0, none⟩) 1 1 [v] (by kernel_rfl) ex627 (by have p := HM.out; have p2 := HML.out; simp only [maxLen]; omega) (by have p := HM.out; have p2 := HML.out; omega) hw625.size ?_
              intro vw628 w628 how628 hgw628 hatw628
              have hbbw628 := how625.below_ hw625 hw625.size hgw628
              obtain ⟨Aw628, cw628, rfl, hlw628, hmw628⟩ := how628.form
              refine hK.out _ _ hbbw628 (fun hw628 => ?_)
              clear hK K
              try simp only [Act.put, List.setIfInBounds_toArray, List.set_cons_zero, List.set_cons_succ]
              refine held_v 7 (some 14) rfl (by kernel_rfl) (by kernel_rfl) (by kernel_rfl) (by kernel_rfl) (fun c a v w h => HQ2.out c a _ v w h) (by kernel_rfl) (.slice Aw628 (l ++ [v]).length cw628) (fun W h => by kernel_rfl) hw628 ?_
              try simp only [Act.put, List.setIfInBounds_toArray, List.set_cons_zero, List.set_cons_succ]
              refine wpAnyH_done (by kernel_rfl) ?_ _
              refine HQ1.out _ _ ?_
              clear HQ1 HQ2
              have hrx := how628.rd rfl
              rw [HMX.out, HL2.out] at hrx
              have G20 := Lib.hid (Fx.addS G315.out hw628 hrx)
              rw [HMX.out] at hlw628 ⊢
              have lcw628 := Lib.hid hlw628
              have HB20 := Lib.hid hw628
              have cf2 := Blk.cell0 (Fx.b5 G20.out)
              try clear HST HNW
              go_wp2_with (first
                | (go_at_call 13; (with_reducible refine (HTO.out _ _ _ (Fx.s0 G20.out)).mono ?_); rintro e _ ⟨rfl, rfl⟩; have cf2 := Blk.cell0 (Fx.b5 G20.out))
                | (go_at_call 12; (with_reducible refine (HSW.out _ _ _ _ _ (Fx.s3 G20.out) (Fx.s6 G20.out)).mono ?_); rintro e w501 ⟨rfl, hbw501⟩; have G502 := Lib.hid (Fx.below G20.out hbw501); clear G20; clear hbw501)
                | (with_reducible refine at_any ?_; refine at_dst 113 rfl ?_; refine wpList_load_fen (by kernel_rfl) (.tmp 11) rfl w304.heap.size rfl 25 (.slice A311 m2 c312) (Fx.b1 G502.out) ?_)
                | (with_reducible refine at_any ?_; refine at_store 5 rfl ?_; refine wpList_store_any rfl 25 (.tmp 5) (.tmp 113) rfl gf rfl 25 #[.slice Af m cf] #[.slice A311 m2 c312] (Fx.b5 G502.out) rfl (size1 _ _) (sizedF _) (fen_ones _ _ _) ?_; intro w503 hkw503 hsw503 hbw503 how503; have G504 := Lib.hid (Fx.storeN (fx3 (Fx.s2 G502.out) (Fx.s0 G502.out) (Fx.e8 G502.out)) (Fx.b5 G502.out) (off3 HLE.out) hkw503.out hsw503.out hbw503 how503); clear G502; clear hkw503 hsw503 hbw503 how503))
              refine wp_region_held_drew (S := (Fx [.blk gf 25 #[.slice A311 m2 c312], .rd .u64 A311 m2 T2, .rd .u64 Aw628 m2 l2, .bel w])) (by kernel_rfl) (Fx.drew G504.out) (fun hH => ?_)
              refine wpAnyH_letter #[false, false, false, false, false] (by kernel_rfl) (fun _ _ d _ _ h => by cases d <;> exact h) (fun QL HQ1 HQ2 => ?_)
              refine held_row 0 (some 115) rfl (by kernel_rfl) (by kernel_rfl) (by kernel_rfl) (by kernel_rfl) (fun c a v w h => HQ2.out c a _ v w h) (by kernel_rfl) 25 (.tmp 5) rfl gf (by kernel_rfl) 25 #[.slice A311 m2 c312] (fun _ h => h.1) _ Tryd.underlying25 rfl (sizedF _) hH ?_
              try simp only [Act.put, List.setIfInBounds_toArray, List.set_cons_zero, List.set_cons_succ]
              refine held_v 1 (some 116) rfl (by kernel_rfl) (by kernel_rfl) (by kernel_rfl) (by kernel_rfl) (fun c a v w h => HQ2.out c a _ v w h) (by kernel_rfl) (.slice Aw628 m2 cw628) (fun W h => by kernel_rfl) hH ?_
              try simp only [Act.put, List.setIfInBounds_toArray, List.set_cons_zero, List.set_cons_succ]
              refine wpAnyH_ready (rs := [2]) (by kernel_rfl) (by decide) ?_
              refine AllReadyH.cons rfl (fun K hK => ?_) AllReadyH.nil
              refine step_call (some 117) (by kernel_rfl) (by kernel_rfl) _ _ (by kernel_rfl) _ (HTR.out _ cw628 _ (Fx.s2 hH)) ?_
              rintro e w701 ⟨A9, c9, rfl, hr9, hl9, hm9, hbw701⟩
              have ex702 : Rd .u64 w701 w701.heap.size A9 m2 T2 := hr9
              refine ⟨_, rfl, ?_⟩
              refine hK.out _ _ (hH.below hbw701) (fun hw701 => ?_)
              clear hK K
              try simp only [Act.put, List.setIfInBounds_toArray, List.set_cons_zero, List.set_cons_succ]
              refine wpAnyH_ready (rs := [3]) (by kernel_rfl) (by decide) ?_
              refine AllReadyH.cons rfl (fun K hK => ?_) AllReadyH.nil
              refine step_call (some 118) (by kernel_rfl) (by kernel_rfl) _ _ (by kernel_rfl) _ (HSF.out _ _ c312 c9 _ (Fx.s1 hw701) ex702) ?_
              rintro e w703 ⟨rfl, hbw703⟩
              refine ⟨_, rfl, ?_⟩
              refine hK.out _ _ (hw701.below hbw703) (fun hw703 => ?_)
              clear hK K
              try simp only [Act.put, List.setIfInBounds_toArray, List.set_cons_zero, List.set_cons_succ]
              refine held_v 4 (some 119) rfl (by kernel_rfl) (by kernel_rfl) (by kernel_rfl) (by kernel_rfl) (fun c a v w h => HQ2.out c a _ v w h) (by kernel_rfl) (.bool false) (fun W h => by kernel_rfl) hw703 ?_
              try simp only [Act.put, List.setIfInBounds_toArray, List.set_cons_zero, List.set_cons_succ]
              refine wpAnyH_done (by kernel_rfl) ?_ _
              refine HQ1.out _ _ ?_
              clear HQ1 HQ2
              have HF := Lib.hid hw703
              go_wp2_with fail
              go_roundw
              case rel => exact ⟨i + 1, l2, A311, c312, Aw628, cw628, by omega, by go_num, by rw [HML2.out], HST3.out _ _ _ lc312.out mc312.out (by rw [HML2.out]; exact Fx.b0 HF.out) (by rw [HML2.out, HTL2.out]; exact Fx.s1 HF.out) (by rw [HML2.out]; exact Fx.s2 HF.out) (Fx.e3 HF.out)⟩
              case measure => simp [intOf]; omega
          · have e := grw_big (l := l) (v := v) (by omega) (by rw [hl2]; exact hs2)
            have hg := fun A c (hc : m ≤ c) (hm : c ≤ maxLen) W hT h => calls_fen (q11grow_c l hz0 hs (by omega) A m c hml hc hm v v0 v1 W hT h) (congrArg treeL e.2) e.1 (n := 0) rfl
            rw [hT] at hg
            have HTO := Lib.hid (fun A c W h => calls_pure (r9total_c l2 hz2 A m2 c (by simp only [maxLen]; omega) W h) (tup_ub (sumV_no hs2).1 (sumV_no hs2).2))
            have HG := Lib.hid hg
            clear hg e hl2 hm2 hml2 hz2 hz20 hs2 hz hz0 hs hml hlm t0 t1 v0 v1 hmem hta hv hct hSc hn5 hnm hgn hgk
            go_wp2_with (first
              | (with_reducible refine at_any ?_; refine at_dst 50 rfl ?_; refine wpList_load_turn (by kernel_rfl) (.tmp 49) rfl tb (toff + i * 2) rfl ta v hc0 hc1 ?_)
              | (with_reducible refine at_any ?_; refine at_dst 9 rfl ?_; refine wpList_alloc_any rfl 47 rfl #[.int .i64 0, .int .u64 0] zero_turn ?_; intro w301 hkw301 hsw301 hbw301; have K9 := Lib.hid hkw301.out; have B9 := Lib.hid hbw301; clear hkw301 hsw301 hbw301)
              | (with_reducible refine at_any ?_; refine at_store 9 rfl ?_; refine wpList_store_any rfl 47 (.tmp 9) (.tmp 50) rfl wr.heap.size rfl 47 #[.int .i64 0, .int .u64 0] #[.int .i64 ta, .int .u64 v] K9.out rfl (size2 _ _ _ _) (sizedT _ _) (turn_ones _ _) ?_; intro w302 hkw302 hsw302 hbw302 how302; have G303 := Lib.hid (Fx.newB G1.out hkw302.out (B9.out.trans (hbw302 _ (Nat.le_refl _)))); clear G1; clear hkw302 hsw302 hbw302 how302; have cf1 := Blk.cell0 (Blk.alloc (Fx.b1 G303.out) (.cells #[] 32)))
              | (with_reducible refine at_any ?_; refine at_dst 54 rfl ?_; refine wpList_own_copy8 w302 rfl (.tmp 51) (.tmp 53) rfl rfl Af m cf T rfl (Fx.s2 G303.out) HM5.out ?_; intro A305 c306 w304 hbw304 hrw304 hlw304 hmw304; rw [HLT.out] at hrw304 hlw304 ⊢; have lc306 := Lib.hid hlw304.out; have mc306 := Lib.hid hmw304.out; have G307 := Lib.hid (Fx.addS G303.out hbw304 hrw304); clear G303; clear hrw304 hbw304 hlw304 hmw304)
              | (with_reducible refine at_any ?_; refine at_dst 11 rfl ?_; refine wpList_alloc_any rfl 25 rfl #[.slice none 0 0] zero_fen ?_; intro w308 hkw308 hsw308 hbw308; have K11 := Lib.hid hkw308.out; have N11f := Lib.hid (ne_blk (Fx.b2 G307.out)); have N11t := Lib.hid (ne_blk (Fx.b1 G307.out)); have L11 := Lib.hid (Below.size (Fx.e5 G307.out)); have G309 := Lib.hid (Fx.below G307.out hbw308); clear G307; have ct0 := pair_c0 (Fx.b1 G309.out); have ct1 := pair_c1 (Fx.b1 G309.out); clear hkw308 hsw308 hbw308)
              | (with_reducible refine at_any ?_; refine at_dst 59 rfl ?_; refine wpList_load_fen (by kernel_rfl) (.tmp 5) rfl gf rfl 25 (.slice Af m cf) (Fx.b2 G309.out) ?_)
              | (go_at_call 21; (with_reducible refine (HG.out _ _ lcf.out mcf.out _ (HTT.out.below (Fx.e5 G309.out)) (Fx.s3 G309.out)).mono ?_); rintro e w310 ⟨A311, c312, rfl, hrw310, hlw310, hmw310, hbw310⟩; have lc312 := Lib.hid hlw310; have mc312 := Lib.hid hmw310; have G313 := Lib.hid (Fx.addS G309.out hbw310 hrw310); clear G309; have K12 := Lib.hid (K11.out.below hbw310 K11.out.lt); clear hrw310 hbw310 hlw310 hmw310)
              | (with_reducible refine at_any ?_; refine at_store 11 rfl ?_; refine wpList_store_any rfl 25 (.tmp 11) (.tmp 63) rfl w304.heap.size rfl 25 #[.slice none 0 0] #[.slice A311 0 c312] K12.out rfl (size1 _ _) (sizedF _) (fen_ones _ _ _) ?_; intro w314 hkw314 hsw314 hbw314 how314; have G315 := Lib.hid (Fx.storeN G313.out K12.out (off_rd (off_rd (off_blk N11t.out (off_blk N11f.out (off_rd (off_rd (off_bel L11.out (off_nil)))))))) hkw314.out hsw314.out hbw314 how314); clear G313; clear hkw314 hsw314 hbw314 how314))
            have HST : Hid (∀ W, Below w314.heap.size w314 W → W.cell? ⟨wr.heap.size, 1, none⟩ = some (.int .u64 v)) := Lib.hid (fun W h => pair_c1 (Blk.below (Fx.b3 G315.out) h (Blk.lt (Fx.b3 G315.out))))
            have HNW : Hid (∀ W, Below w314.heap.size w314 W → Rd .u64 W W.heap.size An m l) := Lib.hid (fun W h => HR1 (Fx.s6 G315.out) h)
            refine wp_region_held_drew (S := (fun W => Below w314.heap.size w314 W)) (by kernel_rfl) (Below.refl _ _).drew (fun hH => ?_)
            refine wpAnyH_letter #[false, false, false, false, false, false, false, false] (by kernel_rfl) (fun _ _ d _ _ h => by cases d <;> exact h) (fun QL HQ1 HQ2 => ?_)
            refine held_v 1 (some 66) rfl (by kernel_rfl) (by kernel_rfl) (by kernel_rfl) (by kernel_rfl) (fun c a v w h => HQ2.out c a _ v w h) (by kernel_rfl) (.slice An m cn) (fun W h => by kernel_rfl) hH ?_
            try simp only [Act.put, List.setIfInBounds_toArray, List.set_cons_zero, List.set_cons_succ]
            refine held_v 3 (some 68) rfl (by kernel_rfl) (by kernel_rfl) (by kernel_rfl) (by kernel_rfl) (fun c a v w h => HQ2.out c a _ v w h) (by kernel_rfl) (.pointer (some ⟨wr.heap.size, 1, none⟩)) (fun W h => by kernel_rfl) hH ?_
            try simp only [Act.put, List.setIfInBounds_toArray, List.set_cons_zero, List.set_cons_succ]
            refine held_v 4 (some 69) rfl (by kernel_rfl) (by kernel_rfl) (by kernel_rfl) (by kernel_rfl) (fun c a v w h => HQ2.out c a _ v w h) (by kernel_rfl) (.int .u64 v) (fun W h => by have p := HST.out W h; go_simp) hH ?_
            try simp only [Act.put, List.setIfInBounds_toArray, List.set_cons_zero, List.set_cons_succ]
            refine wpAnyH_ready (rs := [0, 5]) (by kernel_rfl) (by decide) ?_
            refine AllReadyH.cons rfl (fun K hK => ?_) (AllReadyH.cons rfl (fun K hK => ?_) AllReadyH.nil)
            · refine step_build0 (some 65) (by kernel_rfl) (by kernel_rfl) rfl w314.heap.size hH.size ?_
              intro gr602 w601 hew601 how601 hbw601
              refine hK.out _ _ (hH.trans (hbw601.mono hH.size)) (fun hw601 => ?_)
              clear hK K
              try simp only [Act.put, List.setIfInBounds_toArray, List.set_cons_zero, List.set_cons_succ]
              refine wpAnyH_ready (rs := [2, 5]) (by kernel_rfl) (by decide) ?_
              refine AllReadyH.cons rfl (fun K hK => ?_) (AllReadyH.cons rfl (fun K hK => ?_) AllReadyH.nil)
              · refine step_append_d w601 (some 67) rfl rfl (.tmp 65) (.tmp 66) 22 rfl w314.heap.size 32 ti _ 8 .u64 Tryd.underlying22 hti hz00 hz1 hzb rfl _ [] (by kernel_rfl) how601 w601.heap.size An m cn l (by kernel_rfl) (HNW.out _ hw601) (by have p := HM.out; simp only [List.length_nil, maxLen]; omega) (by have p := HM.out; simp only [List.length_nil]; omega) hw601.size ?_
                intro vw603 w603 how603 hgw603 hatw603
                rw [List.nil_append] at how603
                have hbbw603 := how601.below_ hw601 hw601.size hgw603
                obtain ⟨Aw603, cw603, rfl, -, -⟩ := how603.form
                refine hK.out _ _ hbbw603 (fun hw603 => ?_)
                clear hK K
                try simp only [Act.put, List.setIfInBounds_toArray, List.set_cons_zero, List.set_cons_succ]
                refine wpAnyH_ready (rs := [5]) (by kernel_rfl) (by decide) ?_
                refine AllReadyH.cons rfl (fun K hK => ?_) AllReadyH.nil
                refine step_build_one (some 70) (by kernel_rfl) (by kernel_rfl) (.tmp 69) rfl v (by kernel_rfl) ?_
                intro gr606 w605 hew605 hrw605 hbw605
                have ex607 := how603.below hbw605
                refine hK.out _ _ (hw603.trans (hbw605.mono hw603.size)) (fun hw605 => ?_)
                clear hK K
                try simp only [Act.put, List.setIfInBounds_toArray, List.set_cons_zero, List.set_cons_succ]
                refine wpAnyH_ready (rs := [6]) (by kernel_rfl) (by decide) ?_
                refine AllReadyH.cons rfl (fun K hK => ?_) AllReadyH.nil
                refine step_append_d w605 (some 71) rfl rfl (.tmp 67) (.tmp 70) 22 rfl w314.heap.size 32 ti _ 8 .u64 Tryd.underlying22 hti hz00 hz1 hzb rfl _ l (by kernel_rfl) ex607 w605.heap.size (some ⟨gr606, 0, none⟩) 1 1 [v] (by kernel_rfl) hrw605 (by have p := HM.out; have p2 := HML.out; simp only [maxLen]; omega) (by have p := HM.out; have p2 := HML.out; omega) hw605.size ?_
                intro vw608 w608 how608 hgw608 hatw608
                have hbbw608 := ex607.below_ hw605 hw605.size hgw608
                obtain ⟨Aw608, cw608, rfl, hlw608, hmw608⟩ := how608.form
                refine hK.out _ _ hbbw608 (fun hw608 => ?_)
                clear hK K
                try simp only [Act.put, List.setIfInBounds_toArray, List.set_cons_zero, List.set_cons_succ]
                refine held_v 7 (some 14) rfl (by kernel_rfl) (by kernel_rfl) (by kernel_rfl) (by kernel_rfl) (fun c a v w h => HQ2.out c a _ v w h) (by kernel_rfl) (.slice Aw608 (l ++ [v]).length cw608) (fun W h => by kernel_rfl) hw608 ?_
                try simp only [Act.put, List.setIfInBounds_toArray, List.set_cons_zero, List.set_cons_succ]
                refine wpAnyH_done (by kernel_rfl) ?_ _
                refine HQ1.out _ _ ?_
                clear HQ1 HQ2
                have hrx := how608.rd rfl
                rw [HMX.out, HL2.out] at hrx
                have G20 := Lib.hid (Fx.addS G315.out hw608 hrx)
                rw [HMX.out] at hlw608 ⊢
                have lcw608 := Lib.hid hlw608
                have HB20 := Lib.hid hw608
                have cf2 := Blk.cell0 (Fx.b5 G20.out)
                try clear HST HNW
                go_wp2_with (first
                  | (go_at_call 13; (with_reducible refine (HTO.out _ _ _ (Fx.s0 G20.out)).mono ?_); rintro e _ ⟨rfl, rfl⟩; have cf2 := Blk.cell0 (Fx.b5 G20.out))
                  | (go_at_call 12; (with_reducible refine (HSW.out _ _ _ _ _ (Fx.s3 G20.out) (Fx.s6 G20.out)).mono ?_); rintro e w501 ⟨rfl, hbw501⟩; have G502 := Lib.hid (Fx.below G20.out hbw501); clear G20; have cg2 := Blk.cell0 (Fx.b1 G502.out); clear hbw501))
                go_roundw
                case rel => exact ⟨i + 1, l, Af, cf, An, cn, by omega, by go_num, by rw [HML.out], HST2.out _ (by rw [HML.out]; exact (Fx.b5 G502.out)) (by rw [HML.out, HTL.out]; exact (Fx.s6 G502.out)) (by rw [HML.out]; exact (Fx.s7 G502.out)) (Fx.e8 G502.out)⟩
                case measure => simp [intOf]; omega
              · refine step_build_one (some 70) (by kernel_rfl) (by kernel_rfl) (.tmp 69) rfl v (by kernel_rfl) ?_
                intro gr611 w610 hew610 hrw610 hbw610
                have ex612 : gr611 ≠ gr602 := by have := own_lt how601; omega
                have ex613 := how601.below hbw610
                refine hK.out _ _ (hw601.trans (hbw610.mono hw601.size)) (fun hw610 => ?_)
                clear hK K
                try simp only [Act.put, List.setIfInBounds_toArray, List.set_cons_zero, List.set_cons_succ]
                refine wpAnyH_ready (rs := [2]) (by kernel_rfl) (by decide) ?_
                refine AllReadyH.cons rfl (fun K hK => ?_) AllReadyH.nil
                refine step_append_d w610 (some 67) rfl rfl (.tmp 65) (.tmp 66) 22 rfl w314.heap.size 32 ti _ 8 .u64 Tryd.underlying22 hti hz00 hz1 hzb rfl _ [] (by kernel_rfl) ex613 w610.heap.size An m cn l (by kernel_rfl) (HNW.out _ hw610) (by have p := HM.out; simp only [List.length_nil, maxLen]; omega) (by have p := HM.out; simp only [List.length_nil]; omega) hw610.size ?_
                intro vw614 w614 how614 hgw614 hatw614
                rw [List.nil_append] at how614
                have hbbw614 := ex613.below_ hw610 hw610.size hgw614
                have ex616 := (Rd.grownA hrw610 (fun b off _ hA => by injection hA with hA; injection hA with hA _; subst hA; intro hx; injection hx with hx; exact ex612 hx.symm) (Nat.le_refl _) hgw614).mono (show w610.heap.size ≤ w614.heap.size from hgw614.size)
                obtain ⟨Aw614, cw614, rfl, -, -⟩ := how614.form
                refine hK.out _ _ hbbw614 (fun hw614 => ?_)
                clear hK K
                try simp only [Act.put, List.setIfInBounds_toArray, List.set_cons_zero, List.set_cons_succ]
                refine wpAnyH_ready (rs := [6]) (by kernel_rfl) (by decide) ?_
                refine AllReadyH.cons rfl (fun K hK => ?_) AllReadyH.nil
                refine step_append_d w614 (some 71) rfl rfl (.tmp 67) (.tmp 70) 22 rfl w314.heap.size 32 ti _ 8 .u64 Tryd.underlying22 hti hz00 hz1 hzb rfl _ l (by kernel_rfl) how614 w614.heap.size (some ⟨gr611, 0, none⟩) 1 1 [v] (by kernel_rfl) ex616 (by have p := HM.out; have p2 := HML.out; simp only [maxLen]; omega) (by have p := HM.out; have p2 := HML.out; omega) hw614.size ?_
                intro vw617 w617 how617 hgw617 hatw617
                have hbbw617 := how614.below_ hw614 hw614.size hgw617
                obtain ⟨Aw617, cw617, rfl, hlw617, hmw617⟩ := how617.form
                refine hK.out _ _ hbbw617 (fun hw617 => ?_)
                clear hK K
                try simp only [Act.put, List.setIfInBounds_toArray, List.set_cons_zero, List.set_cons_succ]
                refine held_v 7 (some 14) rfl (by kernel_rfl) (by kernel_rfl) (by kernel_rfl) (by kernel_rfl) (fun c a v w h => HQ2.out c a _ v w h) (by kernel_rfl) (.slice Aw617 (l ++ [v]).length cw617) (fun W h => by kernel_rfl) hw617 ?_
                try simp only [Act.put, List.setIfInBounds_toArray, List.set_cons_zero, List.set_cons_succ]
                refine wpAnyH_done (by kernel_rfl) ?_ _
                refine HQ1.out _ _ ?_
                clear HQ1 HQ2
                have hrx := how617.rd rfl
                rw [HMX.out, HL2.out] at hrx
                have G20 := Lib.hid (Fx.addS G315.out hw617 hrx)
                rw [HMX.out] at hlw617 ⊢
                have lcw617 := Lib.hid hlw617
                have HB20 := Lib.hid hw617
                have cf2 := Blk.cell0 (Fx.b5 G20.out)
                try clear HST HNW
                go_wp2_with (first
                  | (go_at_call 13; (with_reducible refine (HTO.out _ _ _ (Fx.s0 G20.out)).mono ?_); rintro e _ ⟨rfl, rfl⟩; have cf2 := Blk.cell0 (Fx.b5 G20.out))
                  | (go_at_call 12; (with_reducible refine (HSW.out _ _ _ _ _ (Fx.s3 G20.out) (Fx.s6 G20.out)).mono ?_); rintro e w501 ⟨rfl, hbw501⟩; have G502 := Lib.hid (Fx.below G20.out hbw501); clear G20; have cg2 := Blk.cell0 (Fx.b1 G502.out); clear hbw501))
                go_roundw
                case rel => exact ⟨i + 1, l, Af, cf, An, cn, by omega, by go_num, by rw [HML.out], HST2.out _ (by rw [HML.out]; exact (Fx.b5 G502.out)) (by rw [HML.out, HTL.out]; exact (Fx.s6 G502.out)) (by rw [HML.out]; exact (Fx.s7 G502.out)) (Fx.e8 G502.out)⟩
                case measure => simp [intOf]; omega
            · refine step_build_one (some 70) (by kernel_rfl) (by kernel_rfl) (.tmp 69) rfl v (by kernel_rfl) ?_
              intro gr620 w619 hew619 hrw619 hbw619
              refine hK.out _ _ (hH.trans (hbw619.mono hH.size)) (fun hw619 => ?_)
              clear hK K
              try simp only [Act.put, List.setIfInBounds_toArray, List.set_cons_zero, List.set_cons_succ]
              refine wpAnyH_ready (rs := [0]) (by kernel_rfl) (by decide) ?_
              refine AllReadyH.cons rfl (fun K hK => ?_) AllReadyH.nil
              refine step_build0 (some 65) (by kernel_rfl) (by kernel_rfl) rfl w314.heap.size hw619.size ?_
              intro gr622 w621 hew621 how621 hbw621
              have ex623 : gr620 ≠ gr622 := by have := rd_lt hrw619 (by omega); omega
              have ex624 := HR1 hrw619 hbw621
              refine hK.out _ _ (hw619.trans (hbw621.mono hw619.size)) (fun hw621 => ?_)
              clear hK K
              try simp only [Act.put, List.setIfInBounds_toArray, List.set_cons_zero, List.set_cons_succ]
              refine wpAnyH_ready (rs := [2]) (by kernel_rfl) (by decide) ?_
              refine AllReadyH.cons rfl (fun K hK => ?_) AllReadyH.nil
              refine step_append_d w621 (some 67) rfl rfl (.tmp 65) (.tmp 66) 22 rfl w314.heap.size 32 ti _ 8 .u64 Tryd.underlying22 hti hz00 hz1 hzb rfl _ [] (by kernel_rfl) how621 w621.heap.size An m cn l (by kernel_rfl) (HNW.out _ hw621) (by have p := HM.out; simp only [List.length_nil, maxLen]; omega) (by have p := HM.out; simp only [List.length_nil]; omega) hw621.size ?_
              intro vw625 w625 how625 hgw625 hatw625
              rw [List.nil_append] at how625
              have hbbw625 := how621.below_ hw621 hw621.size hgw625
              have ex627 := (Rd.grownA ex624 (fun b off _ hA => by injection hA with hA; injection hA with hA _; subst hA; intro hx; injection hx with hx; exact ex623 hx.symm) (Nat.le_refl _) hgw625).mono (show w621.heap.size ≤ w625.heap.size from hgw625.size)
              obtain ⟨Aw625, cw625, rfl, -, -⟩ := how625.form
              refine hK.out _ _ hbbw625 (fun hw625 => ?_)
              clear hK K
              try simp only [Act.put, List.setIfInBounds_toArray, List.set_cons_zero, List.set_cons_succ]
              refine wpAnyH_ready (rs := [6]) (by kernel_rfl) (by decide) ?_
              refine AllReadyH.cons rfl (fun K hK => ?_) AllReadyH.nil
              refine step_append_d w625 (some 71) rfl rfl (.tmp 67) (.tmp 70) 22 rfl w314.heap.size 32 ti _ 8 .u64 Tryd.underlying22 hti hz00 hz1 hzb rfl _ l (by kernel_rfl) how625 w625.heap.size (some ⟨gr620, 0, none⟩) 1 1 [v] (by kernel_rfl) ex627 (by have p := HM.out; have p2 := HML.out; simp only [maxLen]; omega) (by have p := HM.out; have p2 := HML.out; omega) hw625.size ?_
              intro vw628 w628 how628 hgw628 hatw628
              have hbbw628 := how625.below_ hw625 hw625.size hgw628
              obtain ⟨Aw628, cw628, rfl, hlw628, hmw628⟩ := how628.form
              refine hK.out _ _ hbbw628 (fun hw628 => ?_)
              clear hK K
              try simp only [Act.put, List.setIfInBounds_toArray, List.set_cons_zero, List.set_cons_succ]
              refine held_v 7 (some 14) rfl (by kernel_rfl) (by kernel_rfl) (by kernel_rfl) (by kernel_rfl) (fun c a v w h => HQ2.out c a _ v w h) (by kernel_rfl) (.slice Aw628 (l ++ [v]).length cw628) (fun W h => by kernel_rfl) hw628 ?_
              try simp only [Act.put, List.setIfInBounds_toArray, List.set_cons_zero, List.set_cons_succ]
              refine wpAnyH_done (by kernel_rfl) ?_ _
              refine HQ1.out _ _ ?_
              clear HQ1 HQ2
              have hrx := how628.rd rfl
              rw [HMX.out, HL2.out] at hrx
              have G20 := Lib.hid (Fx.addS G315.out hw628 hrx)
              rw [HMX.out] at hlw628 ⊢
              have lcw628 := Lib.hid hlw628
              have HB20 := Lib.hid hw628
              have cf2 := Blk.cell0 (Fx.b5 G20.out)
              try clear HST HNW
              go_wp2_with (first
                | (go_at_call 13; (with_reducible refine (HTO.out _ _ _ (Fx.s0 G20.out)).mono ?_); rintro e _ ⟨rfl, rfl⟩; have cf2 := Blk.cell0 (Fx.b5 G20.out))
                | (go_at_call 12; (with_reducible refine (HSW.out _ _ _ _ _ (Fx.s3 G20.out) (Fx.s6 G20.out)).mono ?_); rintro e w501 ⟨rfl, hbw501⟩; have G502 := Lib.hid (Fx.below G20.out hbw501); clear G20; have cg2 := Blk.cell0 (Fx.b1 G502.out); clear hbw501))
              go_roundw
              case rel => exact ⟨i + 1, l, Af, cf, An, cn, by omega, by go_num, by rw [HML.out], HST2.out _ (by rw [HML.out]; exact (Fx.b5 G502.out)) (by rw [HML.out, HTL.out]; exact (Fx.s6 G502.out)) (by rw [HML.out]; exact (Fx.s7 G502.out)) (Fx.e8 G502.out)⟩
              case measure => simp [intOf]; omega
        · clear hTl hSc2
          have hnn : 0 ≤ ta := by omega
          by_cases hin : ta < m
          · obtain ⟨l2, hl2⟩ : ∃ x, l.set ta.toNat v = x := ⟨_, rfl⟩
            obtain ⟨m2, hml2⟩ : ∃ x, l2.length = x := ⟨_, rfl⟩
            have hm2 : m2 = m := by rw [← hml2, ← hl2, List.length_set, hml]
            have hz2 : ∀ z ∈ l2, 0 ≤ z ∧ z < 18446744073709551616 := fun z h => by
              rw [← hl2] at h
              rcases List.mem_or_eq_of_mem_set h with h | h
              · exact hz z h
              · rw [h]; exact ⟨v0, v1⟩
            have hz20 : ∀ z ∈ l2, 0 ≤ z := fun z h => (hz2 z h).1
            by_cases hs2 : sumL l2 < 9223372036854775808
            · have e := setE_ok (l := l) (i := ta) (v := v) ⟨hnn, by omega⟩ (by rw [hl2]; exact hs2)
              rw [hl2] at e
              have hg := fun A c (hc : m ≤ c) (hm : c ≤ maxLen) W hT h => calls_fen (q11set_c l hz0 hs (by omega) A m c hml hc hm ta v t0 t1 v0 v1 W hT h) (congrArg treeL e.2) e.1 ((treeL_len _).trans hml2)
              rw [hT] at hg
              have hrs := fun A c W h => calls_lst (r11set_c l hz ta v t0 t1 v0 v1 A m c (by omega) W h) e.2 e.1 hml2
              have HRS := Lib.hid hrs
              have HTR := Lib.hid (fun A c W h => calls_tree (r11tree_c l2 hz20 hs2 A m2 c (by omega) W h) hml2)
              have HSF := Lib.hid (fun A B c d W h h' => calls_val (v' := .bool true) (r11same_c (treeL l2) (treeL l2) A B m2 m2 c d (by simp only [maxLen]; omega) (by simp only [maxLen]; omega) W h h') (congrArg Value.bool (decide_eq_true rfl)))
              have HST3 : Hid (∀ Ag cg Ax, ∀ {cx : Nat}, m2 ≤ cg → cg ≤ maxLen → ∀ {W}, Blk W gf 25 #[.slice Ag l2.length cg] → Rd .u64 W W.heap.size Ag l2.length (treeL l2) → Rd .u64 W W.heap.size Ax l2.length l2 → Below w.heap.size w W → TurnS w gf l2 (i + 1) Ag cg Ax cx W) := Lib.hid (fun Ag cg Ax cx h1 h2 W h3 h4 h5 h6 => ⟨h3, h4, h5, h6, hz2, hs2, by omega, by omega, h2, HLE.out⟩)
              have HML2 := Lib.hid hml2
              obtain ⟨T2, hT2⟩ : ∃ x, treeL l2 = x := ⟨_, rfl⟩
              rw [hT2] at hg
              rw [hT2] at HTR HSF
              have HTL2 := Lib.hid hT2
              have HG := Lib.hid hg
              clear hT2 hml2 hz2 hz20 hs2 hg e hrs hl2 hm2 hin hz hz0 hs hml hlm t0 t1 v0 v1 hmem hta hv hct hSc hn5 hnm hgn hgk
              go_wp2_with (first
                | (with_reducible refine at_any ?_; refine at_dst 50 rfl ?_; refine wpList_load_turn (by kernel_rfl) (.tmp 49) rfl tb (toff + i * 2) rfl ta v hc0 hc1 ?_)
                | (with_reducible refine at_any ?_; refine at_dst 9 rfl ?_; refine wpList_alloc_any rfl 47 rfl #[.int .i64 0, .int .u64 0] zero_turn ?_; intro w301 hkw301 hsw301 hbw301; have K9 := Lib.hid hkw301.out; have B9 := Lib.hid hbw301; clear hkw301 hsw301 hbw301)
                | (with_reducible refine at_any ?_; refine at_store 9 rfl ?_; refine wpList_store_any rfl 47 (.tmp 9) (.tmp 50) rfl wr.heap.size rfl 47 #[.int .i64 0, .int .u64 0] #[.int .i64 ta, .int .u64 v] K9.out rfl (size2 _ _ _ _) (sizedT _ _) (turn_ones _ _) ?_; intro w302 hkw302 hsw302 hbw302 how302; have G303 := Lib.hid (Fx.newB G1.out hkw302.out (B9.out.trans (hbw302 _ (Nat.le_refl _)))); clear G1; clear hkw302 hsw302 hbw302 how302; have cf1 := Blk.cell0 (Blk.alloc (Fx.b1 G303.out) (.cells #[] 32)))
                | (with_reducible refine at_any ?_; refine at_dst 54 rfl ?_; refine wpList_own_copy8 w302 rfl (.tmp 51) (.tmp 53) rfl rfl Af m cf T rfl (Fx.s2 G303.out) HM5.out ?_; intro A305 c306 w304 hbw304 hrw304 hlw304 hmw304; rw [HLT.out] at hrw304 hlw304 ⊢; have lc306 := Lib.hid hlw304.out; have mc306 := Lib.hid hmw304.out; have G307 := Lib.hid (Fx.addS G303.out hbw304 hrw304); clear G303; clear hrw304 hbw304 hlw304 hmw304)
                | (with_reducible refine at_any ?_; refine at_dst 11 rfl ?_; refine wpList_alloc_any rfl 25 rfl #[.slice none 0 0] zero_fen ?_; intro w308 hkw308 hsw308 hbw308; have K11 := Lib.hid hkw308.out; have N11f := Lib.hid (ne_blk (Fx.b2 G307.out)); have N11t := Lib.hid (ne_blk (Fx.b1 G307.out)); have L11 := Lib.hid (Below.size (Fx.e5 G307.out)); have G309 := Lib.hid (Fx.below G307.out hbw308); clear G307; have ct0 := pair_c0 (Fx.b1 G309.out); have ct1 := pair_c1 (Fx.b1 G309.out); clear hkw308 hsw308 hbw308)
                | (with_reducible refine at_any ?_; refine at_dst 80 rfl ?_; refine wpList_load_fen (by kernel_rfl) (.tmp 5) rfl gf rfl 25 (.slice Af m cf) (Fx.b2 G309.out) ?_)
                | (go_at_call 22; (with_reducible refine (HG.out _ _ lcf.out mcf.out _ (HTT.out.below (Fx.e5 G309.out)) (Fx.s3 G309.out)).mono ?_); rintro e w310 ⟨A311, c312, rfl, hrw310, hlw310, hmw310, hbw310⟩; have lc312 := Lib.hid hlw310; have mc312 := Lib.hid hmw310; have G313 := Lib.hid (Fx.addS G309.out hbw310 hrw310); clear G309; have K12 := Lib.hid (K11.out.below hbw310 K11.out.lt); clear hrw310 hbw310 hlw310 hmw310)
                | (with_reducible refine at_any ?_; refine at_store 11 rfl ?_; refine wpList_store_any rfl 25 (.tmp 11) (.tmp 86) rfl w304.heap.size rfl 25 #[.slice none 0 0] #[.slice A311 m2 c312] K12.out rfl (size1 _ _) (sizedF _) (fen_ones _ _ _) ?_; intro w314 hkw314 hsw314 hbw314 how314; have G315 := Lib.hid (Fx.storeN G313.out K12.out (off_rd (off_rd (off_blk N11t.out (off_blk N11f.out (off_rd (off_rd (off_bel L11.out (off_nil)))))))) hkw314.out hsw314.out hbw314 how314); clear G313; have cu0 := pair_c0 (Fx.b3 G315.out); have cu1 := pair_c1 (Fx.b3 G315.out); clear hkw314 hsw314 hbw314 how314)
                | (go_at_call 23; (with_reducible refine (HRS.out _ _ _ (Fx.s6 G315.out)).mono ?_); rintro e w316 ⟨A317, c318, rfl, hrw316, hlw316, hmw316, hbw316⟩; have lc318 := Lib.hid hlw316; have mc318 := Lib.hid hmw316; have G319 := Lib.hid (Fx.addS G315.out hbw316 hrw316); clear G315; have cf2 := Blk.cell0 (Fx.b5 G319.out); clear hrw316 hbw316 hlw316 hmw316)
                | (go_at_call 12; (with_reducible refine (HSW.out _ _ _ _ _ (Fx.s3 G319.out) (Fx.s6 G319.out)).mono ?_); rintro e w320 ⟨rfl, hbw320⟩; have G321 := Lib.hid (Fx.below G319.out hbw320); clear G319; clear hbw320)
                | (with_reducible refine at_any ?_; refine at_dst 113 rfl ?_; refine wpList_load_fen (by kernel_rfl) (.tmp 11) rfl w304.heap.size rfl 25 (.slice A311 m2 c312) (Fx.b1 G321.out) ?_)
                | (with_reducible refine at_any ?_; refine at_store 5 rfl ?_; refine wpList_store_any rfl 25 (.tmp 5) (.tmp 113) rfl gf rfl 25 #[.slice Af m cf] #[.slice A311 m2 c312] (Fx.b5 G321.out) rfl (size1 _ _) (sizedF _) (fen_ones _ _ _) ?_; intro w322 hkw322 hsw322 hbw322 how322; have G323 := Lib.hid (Fx.storeN (fx3 (Fx.s2 G321.out) (Fx.s0 G321.out) (Fx.e8 G321.out)) (Fx.b5 G321.out) (off3 HLE.out) hkw322.out hsw322.out hbw322 how322); clear G321; clear hkw322 hsw322 hbw322 how322))
              refine wp_region_held_drew (S := (Fx [.blk gf 25 #[.slice A311 m2 c312], .rd .u64 A311 m2 T2, .rd .u64 A317 m2 l2, .bel w])) (by kernel_rfl) (Fx.drew G323.out) (fun hH => ?_)
              refine wpAnyH_letter #[false, false, false, false, false] (by kernel_rfl) (fun _ _ d _ _ h => by cases d <;> exact h) (fun QL HQ1 HQ2 => ?_)
              refine held_row 0 (some 115) rfl (by kernel_rfl) (by kernel_rfl) (by kernel_rfl) (by kernel_rfl) (fun c a v w h => HQ2.out c a _ v w h) (by kernel_rfl) 25 (.tmp 5) rfl gf (by kernel_rfl) 25 #[.slice A311 m2 c312] (fun _ h => h.1) _ Tryd.underlying25 rfl (sizedF _) hH ?_
              try simp only [Act.put, List.setIfInBounds_toArray, List.set_cons_zero, List.set_cons_succ]
              refine held_v 1 (some 116) rfl (by kernel_rfl) (by kernel_rfl) (by kernel_rfl) (by kernel_rfl) (fun c a v w h => HQ2.out c a _ v w h) (by kernel_rfl) (.slice A317 m2 c318) (fun W h => by kernel_rfl) hH ?_
              try simp only [Act.put, List.setIfInBounds_toArray, List.set_cons_zero, List.set_cons_succ]
              refine wpAnyH_ready (rs := [2]) (by kernel_rfl) (by decide) ?_
              refine AllReadyH.cons rfl (fun K hK => ?_) AllReadyH.nil
              refine step_call (some 117) (by kernel_rfl) (by kernel_rfl) _ _ (by kernel_rfl) _ (HTR.out _ c318 _ (Fx.s2 hH)) ?_
              rintro e w701 ⟨A9, c9, rfl, hr9, hl9, hm9, hbw701⟩
              have ex702 : Rd .u64 w701 w701.heap.size A9 m2 T2 := hr9
              refine ⟨_, rfl, ?_⟩
              refine hK.out _ _ (hH.below hbw701) (fun hw701 => ?_)
              clear hK K
              try simp only [Act.put, List.setIfInBounds_toArray, List.set_cons_zero, List.set_cons_succ]
              refine wpAnyH_ready (rs := [3]) (by kernel_rfl) (by decide) ?_
              refine AllReadyH.cons rfl (fun K hK => ?_) AllReadyH.nil
              refine step_call (some 118) (by kernel_rfl) (by kernel_rfl) _ _ (by kernel_rfl) _ (HSF.out _ _ c312 c9 _ (Fx.s1 hw701) ex702) ?_
              rintro e w703 ⟨rfl, hbw703⟩
              refine ⟨_, rfl, ?_⟩
              refine hK.out _ _ (hw701.below hbw703) (fun hw703 => ?_)
              clear hK K
              try simp only [Act.put, List.setIfInBounds_toArray, List.set_cons_zero, List.set_cons_succ]
              refine held_v 4 (some 119) rfl (by kernel_rfl) (by kernel_rfl) (by kernel_rfl) (by kernel_rfl) (fun c a v w h => HQ2.out c a _ v w h) (by kernel_rfl) (.bool false) (fun W h => by kernel_rfl) hw703 ?_
              try simp only [Act.put, List.setIfInBounds_toArray, List.set_cons_zero, List.set_cons_succ]
              refine wpAnyH_done (by kernel_rfl) ?_ _
              refine HQ1.out _ _ ?_
              clear HQ1 HQ2
              have HF := Lib.hid hw703
              go_wp2_with fail
              go_roundw
              case rel => exact ⟨i + 1, l2, A311, c312, A317, c318, by omega, by go_num, by rw [HML2.out], HST3.out _ _ _ lc312.out mc312.out (by rw [HML2.out]; exact Fx.b0 HF.out) (by rw [HML2.out, HTL2.out]; exact Fx.s1 HF.out) (by rw [HML2.out]; exact Fx.s2 HF.out) (Fx.e3 HF.out)⟩
              case measure => simp [intOf]; omega
            · have e := setE_big (l := l) (i := ta) (v := v) ⟨hnn, by omega⟩ (by rw [hl2]; exact hs2)
              have hg := fun A c (hc : m ≤ c) (hm : c ≤ maxLen) W hT h => calls_fen (q11set_c l hz0 hs (by omega) A m c hml hc hm ta v t0 t1 v0 v1 W hT h) (congrArg treeL e.2) e.1 (n := 0) rfl
              rw [hT] at hg
              have hrs := fun A c W h => calls_lst (r11set_c l hz ta v t0 t1 v0 v1 A m c (by omega) W h) e.2 e.1 (n := 0) rfl
              have HRS := Lib.hid hrs
              have HG := Lib.hid hg
              clear hg e hrs hl2 hm2 hml2 hz2 hz20 hs2 hin hz hz0 hs hml hlm t0 t1 v0 v1 hmem hta hv hct hSc hn5 hnm hgn hgk
              go_wp2_with (first
                | (with_reducible refine at_any ?_; refine at_dst 50 rfl ?_; refine wpList_load_turn (by kernel_rfl) (.tmp 49) rfl tb (toff + i * 2) rfl ta v hc0 hc1 ?_)
                | (with_reducible refine at_any ?_; refine at_dst 9 rfl ?_; refine wpList_alloc_any rfl 47 rfl #[.int .i64 0, .int .u64 0] zero_turn ?_; intro w301 hkw301 hsw301 hbw301; have K9 := Lib.hid hkw301.out; have B9 := Lib.hid hbw301; clear hkw301 hsw301 hbw301)
                | (with_reducible refine at_any ?_; refine at_store 9 rfl ?_; refine wpList_store_any rfl 47 (.tmp 9) (.tmp 50) rfl wr.heap.size rfl 47 #[.int .i64 0, .int .u64 0] #[.int .i64 ta, .int .u64 v] K9.out rfl (size2 _ _ _ _) (sizedT _ _) (turn_ones _ _) ?_; intro w302 hkw302 hsw302 hbw302 how302; have G303 := Lib.hid (Fx.newB G1.out hkw302.out (B9.out.trans (hbw302 _ (Nat.le_refl _)))); clear G1; clear hkw302 hsw302 hbw302 how302; have cf1 := Blk.cell0 (Blk.alloc (Fx.b1 G303.out) (.cells #[] 32)))
                | (with_reducible refine at_any ?_; refine at_dst 54 rfl ?_; refine wpList_own_copy8 w302 rfl (.tmp 51) (.tmp 53) rfl rfl Af m cf T rfl (Fx.s2 G303.out) HM5.out ?_; intro A305 c306 w304 hbw304 hrw304 hlw304 hmw304; rw [HLT.out] at hrw304 hlw304 ⊢; have lc306 := Lib.hid hlw304.out; have mc306 := Lib.hid hmw304.out; have G307 := Lib.hid (Fx.addS G303.out hbw304 hrw304); clear G303; clear hrw304 hbw304 hlw304 hmw304)
                | (with_reducible refine at_any ?_; refine at_dst 11 rfl ?_; refine wpList_alloc_any rfl 25 rfl #[.slice none 0 0] zero_fen ?_; intro w308 hkw308 hsw308 hbw308; have K11 := Lib.hid hkw308.out; have N11f := Lib.hid (ne_blk (Fx.b2 G307.out)); have N11t := Lib.hid (ne_blk (Fx.b1 G307.out)); have L11 := Lib.hid (Below.size (Fx.e5 G307.out)); have G309 := Lib.hid (Fx.below G307.out hbw308); clear G307; have ct0 := pair_c0 (Fx.b1 G309.out); have ct1 := pair_c1 (Fx.b1 G309.out); clear hkw308 hsw308 hbw308)
                | (with_reducible refine at_any ?_; refine at_dst 80 rfl ?_; refine wpList_load_fen (by kernel_rfl) (.tmp 5) rfl gf rfl 25 (.slice Af m cf) (Fx.b2 G309.out) ?_)
                | (go_at_call 22; (with_reducible refine (HG.out _ _ lcf.out mcf.out _ (HTT.out.below (Fx.e5 G309.out)) (Fx.s3 G309.out)).mono ?_); rintro e w310 ⟨A311, c312, rfl, hrw310, hlw310, hmw310, hbw310⟩; have lc312 := Lib.hid hlw310; have mc312 := Lib.hid hmw310; have G313 := Lib.hid (Fx.addS G309.out hbw310 hrw310); clear G309; have K12 := Lib.hid (K11.out.below hbw310 K11.out.lt); clear hrw310 hbw310 hlw310 hmw310)
                | (with_reducible refine at_any ?_; refine at_store 11 rfl ?_; refine wpList_store_any rfl 25 (.tmp 11) (.tmp 86) rfl w304.heap.size rfl 25 #[.slice none 0 0] #[.slice A311 0 c312] K12.out rfl (size1 _ _) (sizedF _) (fen_ones _ _ _) ?_; intro w314 hkw314 hsw314 hbw314 how314; have G315 := Lib.hid (Fx.storeN G313.out K12.out (off_rd (off_rd (off_blk N11t.out (off_blk N11f.out (off_rd (off_rd (off_bel L11.out (off_nil)))))))) hkw314.out hsw314.out hbw314 how314); clear G313; have cu0 := pair_c0 (Fx.b3 G315.out); have cu1 := pair_c1 (Fx.b3 G315.out); clear hkw314 hsw314 hbw314 how314)
                | (go_at_call 23; (with_reducible refine (HRS.out _ _ _ (Fx.s6 G315.out)).mono ?_); rintro e w316 ⟨A317, c318, rfl, hrw316, hlw316, hmw316, hbw316⟩; have lc318 := Lib.hid hlw316; have mc318 := Lib.hid hmw316; have G319 := Lib.hid (Fx.addS G315.out hbw316 hrw316); clear G315; have cf2 := Blk.cell0 (Fx.b5 G319.out); clear hrw316 hbw316 hlw316 hmw316)
                | (go_at_call 12; (with_reducible refine (HSW.out _ _ _ _ _ (Fx.s3 G319.out) (Fx.s6 G319.out)).mono ?_); rintro e w320 ⟨rfl, hbw320⟩; have G321 := Lib.hid (Fx.below G319.out hbw320); clear G319; have cg2 := Blk.cell0 (Fx.b1 G321.out); clear hbw320))
              go_roundw
              case rel => exact ⟨i + 1, l, Af, cf, An, cn, by omega, by go_num, by rw [HML.out], HST2.out _ (by rw [HML.out]; exact (Fx.b5 G321.out)) (by rw [HML.out, HTL.out]; exact (Fx.s6 G321.out)) (by rw [HML.out]; exact (Fx.s7 G321.out)) (Fx.e8 G321.out)⟩
              case measure => simp [intOf]; omega
          · have e := setE_no (l := l) (i := ta) v (by omega)
            have hg := fun A c (hc : m ≤ c) (hm : c ≤ maxLen) W hT h => calls_fen (q11set_c l hz0 hs (by omega) A m c hml hc hm ta v t0 t1 v0 v1 W hT h) (congrArg treeL e.2) e.1 (n := 0) rfl
            rw [hT] at hg
            have hrs := fun A c W h => calls_lst (r11set_c l hz ta v t0 t1 v0 v1 A m c (by omega) W h) e.2 e.1 (n := 0) rfl
            have HRS := Lib.hid hrs
            have HG := Lib.hid hg
            clear hg e hrs hin hz hz0 hs hml hlm t0 t1 v0 v1 hmem hta hv hct hSc hn5 hnm hgn hgk
            go_wp2_with (first
              | (with_reducible refine at_any ?_; refine at_dst 50 rfl ?_; refine wpList_load_turn (by kernel_rfl) (.tmp 49) rfl tb (toff + i * 2) rfl ta v hc0 hc1 ?_)
              | (with_reducible refine at_any ?_; refine at_dst 9 rfl ?_; refine wpList_alloc_any rfl 47 rfl #[.int .i64 0, .int .u64 0] zero_turn ?_; intro w301 hkw301 hsw301 hbw301; have K9 := Lib.hid hkw301.out; have B9 := Lib.hid hbw301; clear hkw301 hsw301 hbw301)
              | (with_reducible refine at_any ?_; refine at_store 9 rfl ?_; refine wpList_store_any rfl 47 (.tmp 9) (.tmp 50) rfl wr.heap.size rfl 47 #[.int .i64 0, .int .u64 0] #[.int .i64 ta, .int .u64 v] K9.out rfl (size2 _ _ _ _) (sizedT _ _) (turn_ones _ _) ?_; intro w302 hkw302 hsw302 hbw302 how302; have G303 := Lib.hid (Fx.newB G1.out hkw302.out (B9.out.trans (hbw302 _ (Nat.le_refl _)))); clear G1; clear hkw302 hsw302 hbw302 how302; have cf1 := Blk.cell0 (Blk.alloc (Fx.b1 G303.out) (.cells #[] 32)))
              | (with_reducible refine at_any ?_; refine at_dst 54 rfl ?_; refine wpList_own_copy8 w302 rfl (.tmp 51) (.tmp 53) rfl rfl Af m cf T rfl (Fx.s2 G303.out) HM5.out ?_; intro A305 c306 w304 hbw304 hrw304 hlw304 hmw304; rw [HLT.out] at hrw304 hlw304 ⊢; have lc306 := Lib.hid hlw304.out; have mc306 := Lib.hid hmw304.out; have G307 := Lib.hid (Fx.addS G303.out hbw304 hrw304); clear G303; clear hrw304 hbw304 hlw304 hmw304)
              | (with_reducible refine at_any ?_; refine at_dst 11 rfl ?_; refine wpList_alloc_any rfl 25 rfl #[.slice none 0 0] zero_fen ?_; intro w308 hkw308 hsw308 hbw308; have K11 := Lib.hid hkw308.out; have N11f := Lib.hid (ne_blk (Fx.b2 G307.out)); have N11t := Lib.hid (ne_blk (Fx.b1 G307.out)); have L11 := Lib.hid (Below.size (Fx.e5 G307.out)); have G309 := Lib.hid (Fx.below G307.out hbw308); clear G307; have ct0 := pair_c0 (Fx.b1 G309.out); have ct1 := pair_c1 (Fx.b1 G309.out); clear hkw308 hsw308 hbw308)
              | (with_reducible refine at_any ?_; refine at_dst 80 rfl ?_; refine wpList_load_fen (by kernel_rfl) (.tmp 5) rfl gf rfl 25 (.slice Af m cf) (Fx.b2 G309.out) ?_)
              | (go_at_call 22; (with_reducible refine (HG.out _ _ lcf.out mcf.out _ (HTT.out.below (Fx.e5 G309.out)) (Fx.s3 G309.out)).mono ?_); rintro e w310 ⟨A311, c312, rfl, hrw310, hlw310, hmw310, hbw310⟩; have lc312 := Lib.hid hlw310; have mc312 := Lib.hid hmw310; have G313 := Lib.hid (Fx.addS G309.out hbw310 hrw310); clear G309; have K12 := Lib.hid (K11.out.below hbw310 K11.out.lt); clear hrw310 hbw310 hlw310 hmw310)
              | (with_reducible refine at_any ?_; refine at_store 11 rfl ?_; refine wpList_store_any rfl 25 (.tmp 11) (.tmp 86) rfl w304.heap.size rfl 25 #[.slice none 0 0] #[.slice A311 0 c312] K12.out rfl (size1 _ _) (sizedF _) (fen_ones _ _ _) ?_; intro w314 hkw314 hsw314 hbw314 how314; have G315 := Lib.hid (Fx.storeN G313.out K12.out (off_rd (off_rd (off_blk N11t.out (off_blk N11f.out (off_rd (off_rd (off_bel L11.out (off_nil)))))))) hkw314.out hsw314.out hbw314 how314); clear G313; have cu0 := pair_c0 (Fx.b3 G315.out); have cu1 := pair_c1 (Fx.b3 G315.out); clear hkw314 hsw314 hbw314 how314)
              | (go_at_call 23; (with_reducible refine (HRS.out _ _ _ (Fx.s6 G315.out)).mono ?_); rintro e w316 ⟨A317, c318, rfl, hrw316, hlw316, hmw316, hbw316⟩; have lc318 := Lib.hid hlw316; have mc318 := Lib.hid hmw316; have G319 := Lib.hid (Fx.addS G315.out hbw316 hrw316); clear G315; have cf2 := Blk.cell0 (Fx.b5 G319.out); clear hrw316 hbw316 hlw316 hmw316)
              | (go_at_call 12; (with_reducible refine (HSW.out _ _ _ _ _ (Fx.s3 G319.out) (Fx.s6 G319.out)).mono ?_); rintro e w320 ⟨rfl, hbw320⟩; have G321 := Lib.hid (Fx.below G319.out hbw320); clear G319; have cg2 := Blk.cell0 (Fx.b1 G321.out); clear hbw320))
            go_roundw
            case rel => exact ⟨i + 1, l, Af, cf, An, cn, by omega, by go_num, by rw [HML.out], HST2.out _ (by rw [HML.out]; exact (Fx.b5 G321.out)) (by rw [HML.out, HTL.out]; exact (Fx.s6 G321.out)) (by rw [HML.out]; exact (Fx.s7 G321.out)) (Fx.e8 G321.out)⟩
            case measure => simp [intOf]; omega
      · obtain rfl : i = k := by omega
        have HSK := Lib.hid (fun A c (hc : m ≤ c) (hm : c ≤ maxLen) W hT h => calls_l (q11stakes_c l hz0 hs (by omega) A m c hml hc hm W hT h) hml)
        have HSN := Lib.hid (fun A B c d W h h' => calls_val (v' := .bool true) (r9same_c l l A B m m c d (by simp only [maxLen]; omega) (by simp only [maxLen]; omega) W h h') (congrArg Value.bool (decide_eq_true rfl)))
        rw [hT] at HSK
        clear hz hz0 hs hlm hSc hml hT
        go_wp2_with (first
          | (with_reducible refine at_any ?_; refine at_dst 120 rfl ?_; refine wpList_load_fen (by kernel_rfl) (.tmp 5) rfl gf rfl 25 (.slice Af m cf) (Fx.b0 G1.out) ?_)
          | (go_at_call 16; (with_reducible refine (HSK.out _ _ lcf.out mcf.out _ (HTT.out.below (Fx.e3 G1.out)) (Fx.s1 G1.out)).mono ?_); rintro e w801 ⟨A802, c803, rfl, hrw801, hlw801, hmw801, hbw801⟩; have lc803 := Lib.hid hlw801; have mc803 := Lib.hid hmw801; have G804 := Lib.hid (Fx.addS G1.out hbw801 hrw801); clear G1; clear hrw801 hbw801 hlw801 hmw801)
          | (go_at_call 12; (with_reducible refine (HSN.out _ _ _ _ _ (Fx.s0 G804.out) (Fx.s3 G804.out)).mono ?_); rintro e w805 ⟨rfl, hbw805⟩; have G806 := Lib.hid (Fx.below G804.out hbw805); clear G804; clear hbw805))
        go_ret
        exact ⟨rfl, (Fx.e4 G806.out)⟩
  · have e := bldE_big (l := zs) (by omega) hs
    have H1 := Lib.hid (fun A c W hT h => calls_fen (q11build_c zs hz A n c hnm W hT h) e.2 e.1 (n := 0) rfl)
    clear hs e hrd hz hn5 hnm lc cm hlen
    go_enter Tryd.func5, Tryd.ntmps5
    go_wp2_with (first
      | (go_at_call 8; (with_reducible refine (alive11_c _ (HTT.out.below (Fx.e1 G0.out))).mono ?_); rintro e w1 ⟨rfl, hbw1⟩; have G2 := Lib.hid (Fx.below G0.out hbw1); clear G0; clear hbw1)
      | (go_at_call 9; (with_reducible refine (H1.out _ _ _ (HTT.out.below (Fx.e1 G2.out)) (Fx.r0 G2.out)).mono ?_); rintro e w3 ⟨A4, c5, rfl, hrw3, hlw3, hmw3, hbw3⟩; have lc5 := Lib.hid hlw3; have mc5 := Lib.hid hmw3; have G6 := Lib.hid (Fx.addR G2.out hbw3 hrw3); clear G2; clear hrw3 hbw3 hlw3 hmw3)
      | (with_reducible refine at_any ?_; refine at_dst 5 rfl ?_; refine wpList_alloc_any rfl 25 rfl #[.slice none 0 0] zero_fen ?_; intro w7 hkw7 hsw7 hbw7; have U8 := Lib.hid (Fx.under_new G6.out rfl); have G9 := Lib.hid (Fx.newB G6.out hkw7.out hbw7); clear G6; clear hkw7 hsw7 hbw7)
      | (with_reducible refine at_any ?_; refine at_store 5 rfl ?_; refine wpList_store_any rfl 25 (.tmp 5) (.tmp 30) rfl w3.heap.size rfl 25 #[.slice none 0 0] (#[.slice A4 0 c5]) (Fx.b0 G9.out) rfl (size1 _ _) (sizedF _) (fen_ones _ _ _) ?_; intro w10 hkw10 hsw10 hbw10 how10; have G11 := Lib.hid (Fx.put1B G9.out U8.out hkw10.out hsw10.out hbw10 how10); clear G9; clear hkw10 hsw10 hbw10 how10; have cz12 := Blk.cell0 (Fx.b0 G11.out)))
    go_ret
    exact ⟨rfl, (Fx.e3 G11.out)⟩


set_option maxRecDepth 100000 in
theorem lifted (os : Os) (started : os.Started) (H : Type) (enc : TypeId × Value → H) :
    ReturnsInHanded {} Tryd.checked os 5 .any (fun w args => (Rows.fenTurnsSpec.pre enc Tryd.prog Tryd.f5 [] false w args ∧ laidMetH Tryd.prog laidT w) ∧ sizedMet enc Tryd.prog Tryd.f5 (OpenSpec.ofChange Rows.fenTurnsSpec) false w args) (Rows.fenTurnsSpec.post enc Tryd.prog Tryd.f5 false true false false) := by
  refine returnsInHanded_of_change_and (C := Tryd.checked) (X := fun w _ => laidMetH Tryd.prog laidT w) (fun _ _ _ hh h => h.of_heap hh) own started (by kernel_rfl) Tryd.func5
    (ChangeSpec.witness_shaped (enc := enc) (C := Tryd.checked) (os := os) (X := fun w _ => laidMetH Tryd.prog laidT w) false (World.doorLaid Tryd.prog 400 os) #[.slice none 0 0, .slice none 0 0] 8 rfl (World.shaped_of_RefB (by kernel_rfl) (by kernel_rfl)) (by kernel_rfl) (by kernel_rfl) (by kernel_rfl) (door_metT os _)) ?_
  intro W base args ds gs before hval0 hW _ _ hL _
  have hval : ∀ (j : Nat) t v, Tryd.f5.params[j]? = some t → args[j]? = some v → Value.okWide Tryd.prog W .any base t v := hval0
  have hW' := hW
  obtain ⟨p, q, hA0, hV, rfl, hfz, hnd⟩ := hW
  have hA : DataW.TrodAll enc Tryd.prog W 0 (fun _ => true) true Tryd.f5.params.toList args.toList ds p := hA0
  rw [Tryd.params5] at hA hval
  obtain ⟨v0, vs0, d0, ds0, p0, q0, hargs, rfl, rfl, h0, r0⟩ := trodAll_cons hA
  obtain ⟨v1, vs1, d1, ds1, p1, q1, rfl, rfl, rfl, h1, r1⟩ := trodAll_cons r0
  obtain ⟨rfl, rfl, rfl⟩ := trodAll_nil r1
  obtain rfl : args = #[v0, v1] := by cases args; simp_all
  obtain ⟨rfl, rfl⟩ := trodVars_none hV
  obtain ⟨a0, n0, c0, rfl⟩ := okWide_slice Tryd.underlying22 (hval 0 22 v0 rfl rfl)
  have k0 := h0
  have lt0 : ∀ x ∈ p0, x.block < W.heap.size := by obtain ⟨m, hm⟩ := k0; exact DataW.trod_lt m _ _ _ hm
  obtain ⟨z0, rd0, lc0, cm0, w0⟩ := open_rd Tryd.underlying22 Tryd.underlying32 (by kernel_rfl) h0
  obtain ⟨a1, n1, c1, rfl⟩ := okWide_slice Tryd.underlying45 (hval 1 45 v1 rfl rfl)
  have k1 := h1
  have lt1 : ∀ x ∈ p1, x.block < W.heap.size := by obtain ⟨m, hm⟩ := k1; exact DataW.trod_lt m _ _ _ hm
  obtain ⟨z1, rd1, lc1, cm1, w1⟩ := open_pairs Tryd.underlying45 Tryd.underlying47 (by kernel_rfl) (by kernel_rfl) (by kernel_rfl) (by kernel_rfl) (by kernel_rfl) Tryd.underlying3 Tryd.underlying32 h1
  clear hA0 hval0
  refine (walk a0 n0 c0 z0 a1 n1 c1 z1 W (tzT_of_laid hL) rd0 lc0 cm0 w0 rd1 lc1 cm1 w1).mono fun e W' ⟨he, bel⟩ => ?_
  subst he
  exact ⟨_, rfl, _, _, _, [], _, [], hW', trodAll_mk1 (shut_bool Tryd.underlying4 _), (trodAll_cons_mk (Below.trod laidOut (by kernel_rfl) (of_decide_eq_true (by kernel_rfl)) k0 bel lt0) (trodAll_cons_mk (Below.trod laidOut (by kernel_rfl) (of_decide_eq_true (by kernel_rfl)) k1 bel lt1) trodAll_mk0)), rfl, bel.frame _, fun h => by cases h⟩

theorem over : Rows.fenTurnsRow.holds Tryd.pinned (OpenSpec.ofChange Rows.fenTurnsSpec) :=
  OpenClaim.holds_of_wide 5 Tryd.f5 rfl rfl rfl rfl rfl rfl rfl ⟨rfl, rfl, rfl, rfl, rfl⟩ rfl rfl rfl rfl rfl (by kernel_rfl) Tryd.func5 (by kernel_rfl)
    (of_decide_eq_true (by kernel_rfl)) (by unfold Func.isWrapper; first | (rw [if_pos (by decide +kernel)]; kernel_rfl) | (rw [if_neg (by decide +kernel)]; exact ⟨rfl, rfl⟩))
    (fun os started H enc _ => lifted os started H enc)

end Go.Proofs.YtdpjambejmlppaaDoor.fenTurns
namespace Go.Proofs.YtdpjambejmlppaaDoor
theorem fenTurns_holds : Rows.FenTurnsCardSaid :=
  Claim7.holds_tied_plain_at .later [] [.data, .data] true _ false
    fenTurns.over (fun _ h => by cases h) (by kernel_rfl) (fun _ h => by cases h) fenTurns_row_tie rfl ⟨rfl, rfl⟩ (by kernel_rfl) rfl
    (fun f fn hf hfn => by
      obtain rfl : f = 5 := Option.some.inj ((show Tryd.prog.funcNamed "drawlot/drawlotlaw11.FenTurns" = some 5 by kernel_rfl).symm.trans hf) |>.symm
      obtain rfl : fn = Tryd.f5 := (Option.some.inj (Tryd.func5.symm.trans hfn)).symm
      exact ⟨by kernel_rfl, fun j t ht => by
        rw [Tryd.params5] at ht
        have hm : t ∈ [22, 45] := by simpa using Array.mem_of_getElem? ht
        have hall : ([22, 45].all fun u => !Tryd.prog.wantsStandIn u) = true := by kernel_rfl
        exact (show Tryd.prog.wantsStandIn t = false by simpa using List.all_eq_true.1 hall t hm)⟩)
    (by kernel_rfl)
#print axioms fenTurns_holds
end Go.Proofs.YtdpjambejmlppaaDoor
