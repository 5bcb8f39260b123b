/-
  What the document's answers for layer 5 return (Write, Finish), and that they leave memory as it was.
  Conditions: the arguments lie in their types' ranges; what is hashed is small.
-/
import Derived.Test.YtjdceadglfnnbaaDoorRefG
set_option linter.unusedSimpArgs false
namespace Go.Proofs.YtjdceadglfnnbaaDoor
open Go.ChangeShapes Go.WideShapes Go.ChangeAt Go.RowKit
set_option linter.unusedVariables false
section
variable {P : Program} {w w' : World} {ops : Array Oper} {rest : List Oper} {o : Oper} {a : Act} {Q : Exit → Act → World → Prop}
theorem wpList_load_blk (hgd : o.guard = none) (ty : TypeId) (x : Operand) (ho : o.op = .load ty x) (g : Nat) (hx : a.eval x = .pointer (some ⟨g, 0, none⟩)) (t : TypeId) (cs : Array Value) (hb : Blk w g t cs)
    (d : TypeDesc) (hu : P.underlying ty = some d) (hd : d.isRow = true) (hi : (P.info? ty).map (·.size) = some cs.size)
    (h : wpList P ops Q rest (a.put o.dst (.agg cs)) w) : wpList P ops Q (o :: rest) a w :=
  wpList_load_mid hgd ty x ho g 0 hx cs.toList d hb.range hu hd (by rw [Array.length_toList]; exact hi) (by rw [Array.toArray_toList]; exact h)
end
theorem Rd.other {k : IntKind} {w w' : World} {B n r : Nat} {A : Option Addr} {zs : List Int} (h : Rd k w B A n zs) (ho : ∀ j, j ≠ r → w'.heap[j]? = w.heap[j]?) (hne : ∀ b off, 0 < n → A = some ⟨b, off, none⟩ → b ≠ r) : Rd k w' B A n zs :=
  ⟨h.1, fun hn => by
    obtain ⟨b, off, e, hb, hc⟩ := h.2 hn
    refine ⟨b, off, e, hb, fun j hj => ?_⟩
    rw [← hc j hj]
    simp only [World.cell?, ho b (hne b off hn e)]⟩
theorem wrV_kind (s : List Int) (A : Option Addr) (r c : Nat) (n : Int) (j : Nat) (z : Int) : (wrV s A r c n)[j]? ≠ some (.int .u8 z) := by
  intro h
  unfold wrV at h
  rw [List.getElem?_toArray] at h
  rcases List.mem_append.1 (List.mem_of_getElem? h) with h1 | h1
  · obtain ⟨x, _, hx⟩ := List.mem_map.1 h1
    injection hx with h2 h3
    cases h2
  · simp at h1
theorem Rd.apart {w : World} {B n g : Nat} {A : Option Addr} {zs : List Int} {t : TypeId} {s : List Int} {A' : Option Addr} {r c : Nat} {m : Int} (h : Rd .u8 w B A n zs) (hk : Blk w g t (wrV s A' r c m)) : ∀ b off, 0 < n → A = some ⟨b, off, none⟩ → b ≠ g := by
  intro b off hn e hbg
  obtain ⟨b1, off1, e1, _, hc⟩ := h.2 hn
  rw [e] at e1
  injection e1 with e1
  injection e1 with e2 e3
  have h0 := hc 0 hn
  rw [← e2, ← e3, hbg, hk.cell] at h0
  exact wrV_kind _ _ _ _ _ _ _ h0
theorem run_build_zero (w : World) : (Instr.build 36 #[]).run Tryd.prog w = .ok (.agg #[.int .u32 0, .int .u32 0, .int .u32 0, .int .u32 0, .int .u32 0, .int .u32 0, .int .u32 0, .int .u32 0, .slice none 0 0, .int .u64 0]) w := by
  go_simp
theorem build_zero {a : Act} {o : Oper} (w : World) (ho : o.op = .build 36 #[]) : (execOp a.eval o).run Tryd.prog w = .ok (.value (.agg (wrV Z8 none 0 0 0))) w := by
  unfold execOp
  simp only [ho, List.map_toArray, List.map_nil]
  change ((Instr.build 36 #[]) >>= fun v => pure (Next.value v)).run Tryd.prog w = _
  simp only [Sem.run_bind, run_build_zero, Result.andThen_ok, Sem.run_pure]
  rfl
/-- Nothing, and the reason. -/
def RetWE (w : World) (k : Int) (e : Ending) (w' : World) : Prop := e = .returned (.tuple #[.agg (wrV Z8 none 0 0 0), .int .i64 k]) ∧ Below w.heap.size w w'
/-- A writer of this state and rest, that has taken n bytes. -/
def RetW (w : World) (s r : List Int) (n : Int) (e : Ending) (w' : World) : Prop :=
  ∃ A c, e = .returned (.tuple #[.agg (wrV s A r.length c n), .int .i64 0]) ∧ Rd .u8 w' w'.heap.size A r.length r ∧ r.length ≤ c ∧ Below w.heap.size w w'
set_option maxHeartbeats 1000000 in
theorem rwrite_no (s : List Int) (hl : s.length = 8) (A : Option Addr) (r c : Nat) (n : Int) (hr : r ≤ 1000000) (n0 : 0 ≤ n) (n1 : n < 18446744073709551616) (A' : Option Addr) (L c' : Nat) (hno : rightB r n = false) (w : World) :
    Calls Tryd.prog 13 #[.agg (wrV s A r c n), .slice A' L c'] w (RetWE w 1) := by
  have SV := Lib.hid (sizedW s hl A r c n)
  have SZ := Lib.hid (sizedW Z8 rfl none 0 0 0)
  have OZ := Lib.hid (wrV_ones Z8 none 0 0 0)
  have HRC := Lib.hid (fun W => rrightw_c s hl A r c n hr n0 n1 W)
  rw [hno] at HRC
  obtain ⟨V, hV⟩ : ∃ V, wrV s A r c n = V := ⟨_, rfl⟩
  rw [hV] at SV HRC ⊢
  clear hV hno
  go_enter Tryd.func13, Tryd.ntmps13
  go_wp2_with (first
    | (with_reducible refine at_any ?_; refine at_dst 2 rfl ?_; refine wpList_box_any rfl 36 (.tmp 0) rfl V rfl ?_; intro w1 hk1 hs1 hb1)
    | (with_reducible refine at_any ?_; refine at_dst 4 rfl ?_; refine wpList_alloc_any rfl 36 rfl (wrV Z8 none 0 0 0) zero_wr ?_; intro w2 hk2 hs2 hb2; have hk1b := Lib.hid (hk1.out.below hb2 hk1.out.lt); have bl2 := Lib.hid (hb1.trans (hb2.mono hb1.size)))
    | (with_reducible refine at_any ?_; refine at_dst 8 rfl ?_; refine wpList_load_blk rfl 36 (.tmp 2) rfl w.heap.size rfl 36 V hk1b.out _ Tryd.underlying36 rfl SV.out ?_)
    | (go_at_call 18; (with_reducible refine (HRC.out _).mono ?_); rintro e w3 ⟨rfl, hb3⟩; have hk3 := Lib.hid (hk2.out.below hb3 hk2.out.lt); have bl3 := Lib.hid (bl2.out.trans (hb3.mono bl2.out.size)))
    | (with_reducible refine at_any ?_; refine at_dst 11 rfl ?_; refine wpList_val rfl (.agg (wrV Z8 none 0 0 0)) (build_zero _ rfl) ?_)
    | (with_reducible refine at_any ?_; refine at_store 4 rfl ?_; refine wpList_store_any rfl 36 (.tmp 4) (.tmp 11) rfl w1.heap.size rfl 36 (wrV Z8 none 0 0 0) (wrV Z8 none 0 0 0) hk3.out rfl rfl SZ.out OZ.out ?_; intro w9 hk9 hs9 hb9 ho9)
    | (refine bodyPost_any2 4 5 36 rfl w1.heap.size rfl (.int .i64 1) rfl 36 (wrV Z8 none 0 0 0) hk9.out _ Tryd.underlying36 rfl SZ.out rfl ?_))
  exact ⟨rfl, bl3.out.trans (hb9 _ hb1.size)⟩
set_option maxHeartbeats 1000000 in
theorem rwrite_big (s : List Int) (hl : s.length = 8) (A : Option Addr) (r c : Nat) (n : Int) (hr : r ≤ 1000000) (n0 : 0 ≤ n) (n1 : n < 18446744073709551616) (A' : Option Addr) (L c' : Nat) (hL : L ≤ 1000000) (hyes : rightB r n = true) (hbig : 2305843009213693952 ≤ n + L) (w : World) :
    Calls Tryd.prog 13 #[.agg (wrV s A r c n), .slice A' L c'] w (RetWE w 11) := by
  have hn2 : n < 2305843009213693952 := by unfold rightB at hyes; have := of_decide_eq_true hyes; exact this.1
  have SV := Lib.hid (sizedW s hl A r c n)
  have SZ := Lib.hid (sizedW Z8 rfl none 0 0 0)
  have OZ := Lib.hid (wrV_ones Z8 none 0 0 0)
  have HC9 := Lib.hid (wrV_bytes s hl A r c n)
  have HRC := Lib.hid (fun W => rrightw_c s hl A r c n hr n0 n1 W)
  rw [hyes] at HRC
  obtain ⟨V, hV⟩ : ∃ V, wrV s A r c n = V := ⟨_, rfl⟩
  rw [hV] at SV HRC HC9 ⊢
  clear hV hyes
  go_enter Tryd.func13, Tryd.ntmps13
  go_wp2_with (first
    | (with_reducible refine at_any ?_; refine at_dst 2 rfl ?_; refine wpList_box_any rfl 36 (.tmp 0) rfl V rfl ?_; intro w1 hk1 hs1 hb1)
    | (with_reducible refine at_any ?_; refine at_dst 4 rfl ?_; refine wpList_alloc_any rfl 36 rfl (wrV Z8 none 0 0 0) zero_wr ?_; intro w2 hk2 hs2 hb2; have hk1b := Lib.hid (hk1.out.below hb2 hk1.out.lt); have bl2 := Lib.hid (hb1.trans (hb2.mono hb1.size)))
    | (with_reducible refine at_any ?_; refine at_dst 8 rfl ?_; refine wpList_load_blk rfl 36 (.tmp 2) rfl w.heap.size rfl 36 V hk1b.out _ Tryd.underlying36 rfl SV.out ?_)
    | (go_at_call 18; (with_reducible refine (HRC.out _).mono ?_); rintro e w3 ⟨rfl, hb3⟩; have hk3 := Lib.hid (hk2.out.below hb3 hk2.out.lt); have bl3 := Lib.hid (bl2.out.trans (hb3.mono bl2.out.size)); have c9 := (hk1b.out.below hb3 hk1b.out.lt).cell 9; rw [HC9.out] at c9)
    | (with_reducible refine at_any ?_; refine at_dst 19 rfl ?_; refine wpList_val rfl (.agg (wrV Z8 none 0 0 0)) (build_zero _ rfl) ?_)
    | (with_reducible refine at_any ?_; refine at_store 4 rfl ?_; refine wpList_store_any rfl 36 (.tmp 4) (.tmp 19) rfl w1.heap.size rfl 36 (wrV Z8 none 0 0 0) (wrV Z8 none 0 0 0) hk3.out rfl rfl SZ.out OZ.out ?_; intro w9 hk9 hs9 hb9 ho9)
    | (refine bodyPost_any2 4 5 36 rfl w1.heap.size rfl (.int .i64 11) rfl 36 (wrV Z8 none 0 0 0) hk9.out _ Tryd.underlying36 rfl SZ.out rfl ?_))
  exact ⟨rfl, bl3.out.trans (hb9 _ hb1.size)⟩
/-- What Write keeps. -/
def Ws (w : World) (g2 g4 : Nat) (V Z : Array Value) (w' : World) : Prop := Blk w' g2 36 V ∧ Blk w' g4 36 Z ∧ Below w.heap.size w w' ∧ w.heap.size ≤ g4 ∧ g2 ≠ g4
theorem Ws.below {w w' w'' : World} {g2 g4 : Nat} {V Z : Array Value} (h : Ws w g2 g4 V Z w') (hb : Below w'.heap.size w' w'') : Ws w g2 g4 V Z w'' := ⟨h.1.below hb h.1.lt, h.2.1.below hb h.2.1.lt, h.2.2.1.trans (hb.mono h.2.2.1.size), h.2.2.2⟩
theorem Ws.drew {w w' : World} {g2 g4 : Nat} {V Z : Array Value} (h : Ws w g2 g4 V Z w') : Ws w g2 g4 V Z w'.drew := ⟨h.1, h.2.1, h.2.2.1.drew, h.2.2.2⟩
theorem Ws.store {w w' w'' : World} {g2 g4 : Nat} {V Z Y : Array Value} (h : Ws w g2 g4 V Z w') (hk : Blk w'' g4 36 Y) (hb : ∀ B, B ≤ g4 → Below B w' w'') (ho : ∀ j, j ≠ g4 → w''.heap[j]? = w'.heap[j]?) : Ws w g2 g4 V Y w'' :=
  ⟨h.1.other ho h.2.2.2.2, hk, h.2.2.1.trans (hb _ h.2.2.2.1), h.2.2.2⟩
def WsW (w : World) (g2 g4 : Nat) (V : Array Value) (w' : World) : Prop := ∃ Z, Ws w g2 g4 V Z w'
theorem WsW.blk {w w' : World} {g2 g4 : Nat} {V : Array Value} (h : WsW w g2 g4 V w') : Blk w' g2 36 V := by obtain ⟨Z, h⟩ := h; exact h.1
set_option maxHeartbeats 2000000 in
theorem rwrite_c (s rest b : List Int) (hl : s.length = 8) (hs : WIn s) (A : Option Addr) (r c : Nat) (n : Int) (hr : r ≤ 63) (n0 : 0 ≤ n) (A' : Option Addr) (L c' : Nat) (hL : L ≤ 100000) (hyes : rightB r n = true) (hbig : n + L < 2305843009213693952) (w : World)
    (hrd : Rd .u8 w w.heap.size A r rest) (hrb : Rd .u8 w w.heap.size A' L b) (hri : ∀ z ∈ rest, 0 ≤ z ∧ z < 256) (hbi : ∀ z ∈ b, 0 ≤ z ∧ z < 256) :
    Calls Tryd.prog 13 #[.agg (wrV s A r c n), .slice A' L c'] w (RetW w (nextS s rest b) (nextR rest b) (n + L)) := by
  obtain ⟨i0, hi0, hz0, hz1, hzb⟩ := info_parts info_u8'
  have hlr := hrd.len
  have hlb := hrb.len
  obtain ⟨J, hJ⟩ : ∃ J, rest ++ b = J := ⟨_, rfl⟩
  have hJl : J.length = r + L := by rw [← hJ, List.length_append, hlr, hlb]
  have hJi : ∀ z ∈ J, 0 ≤ z ∧ z < 256 := by
    rw [← hJ]; intro z hz
    rcases List.mem_append.1 hz with h | h
    · exact hri z h
    · exact hbi z h
  obtain ⟨q, hq⟩ : ∃ q, J.length / 64 = q := ⟨_, rfl⟩
  obtain ⟨BS, hBS⟩ : ∃ BS, cutN J q = BS := ⟨_, rfl⟩
  have hNS : nextS s rest b = takesL s BS := by unfold nextS; rw [hJ, hq, hBS]
  have hNR : nextR rest b = J.drop (64 * q) := by unfold nextR; rw [hJ, hq]
  rw [hNS, hNR]
  have hBi := cutN_in J q hJi
  have hBl := cutN_length J q
  rw [hBS] at hBi hBl
  have hDl : (J.drop (64 * q)).length = J.length - 64 * q := by rw [List.length_drop]
  obtain ⟨X, hX⟩ : ∃ X, takesL s BS = X := ⟨_, rfl⟩
  have hXl : X.length = 8 := by rw [← hX]; exact takesL_len _ _ hl
  have HT1 := Lib.hid (fun A n c W h1 h2 => rtakes_c s A n c BS hl hs W h1 hBi h2)
  rw [hX] at HT1 ⊢
  have HC1 := Lib.hid (fun A c W h1 h2 => rcut_c A c J.length J W h1 h2 (by omega))
  rw [hq, hBS] at HC1
  obtain ⟨D, hD⟩ : ∃ D, J.drop (64 * q) = D := ⟨_, rfl⟩
  rw [hD] at hDl ⊢
  have HD := Lib.hid hD
  have hn2 : n < 2305843009213693952 := by omega
  have SV := Lib.hid (sizedW s hl A r c n)
  have HC8 := Lib.hid (wrV_rest s hl A r c n)
  have HC9 := Lib.hid (wrV_bytes s hl A r c n)
  have HST := Lib.hid (fun W g (h : Blk W g 36 (wrV s A r c n)) => wrV_state h)
  have HRC := Lib.hid (fun W => rrightw_c s hl A r c n (by omega) n0 (by omega) W)
  rw [hyes] at HRC
  obtain ⟨V, hV⟩ : ∃ V, wrV s A r c n = V := ⟨_, rfl⟩
  rw [hV] at SV HRC HC8 HC9 HST ⊢
  have HJ := Lib.hid hJ
  have HJL := Lib.hid hJl
  have HBL := Lib.hid hBl
  have HDL := Lib.hid hDl
  have HXL := Lib.hid hXl
  have HRD := Lib.hid hrd
  have HRB := Lib.hid hrb
  have HLR := Lib.hid hlr
  have SS := Lib.hid (show (Tryd.prog.info? 33).map (·.size) = some (s.map (Value.int .u32)).length by rw [List.length_map, hl]; exact size_state)
  have hq2 : q ≤ 10000 := by omega
  clear hV hyes hJ hJl hJi hq hBS hNS hNR hBi hBl hDl hX hXl hD hrd hrb hlr hlb
  go_enter Tryd.func13, Tryd.ntmps13
  go_wp2_with (first
    | (with_reducible refine at_any ?_; refine at_dst 2 rfl ?_; refine wpList_box_any rfl 36 (.tmp 0) rfl V rfl ?_; intro w1 hk1 hs1 hb1)
    | (with_reducible refine at_any ?_; refine at_dst 4 rfl ?_; refine wpList_alloc_any rfl 36 rfl (wrV Z8 none 0 0 0) zero_wr ?_; intro w2 hk2 hs2 hb2; have hk1b := Lib.hid (hk1.out.below hb2 hk1.out.lt); have bl2 := Lib.hid (hb1.trans (hb2.mono hb1.size)))
    | (with_reducible refine at_any ?_; refine at_dst 8 rfl ?_; refine wpList_load_blk rfl 36 (.tmp 2) rfl w.heap.size rfl 36 V hk1b.out _ Tryd.underlying36 rfl SV.out ?_)
    | (go_at_call 18; (with_reducible refine (HRC.out _).mono ?_); rintro e w3 ⟨rfl, hb3⟩; have hk3 := Lib.hid (hk2.out.below hb3 hk2.out.lt); have bl3 := Lib.hid (bl2.out.trans (hb3.mono bl2.out.size)); have hk1c := Lib.hid (hk1b.out.below hb3 hk1b.out.lt); have c8 := hk1c.out.cell 8; have c9 := hk1c.out.cell 9; rw [HC8.out] at c8; rw [HC9.out] at c9; have hlt3 := hk1c.out.lt; have hr3 := Lib.hid ((HRD.out.below bl3.out).mono bl3.out.size))
    | (at_builtin; refine wpList_append_ints _ rfl (.tmp 21) (.tmp 23) 29 rfl w3.heap.size 5 i0 _ 1 .u8 Tryd.underlying29 hi0 hz0 hz1 hzb rfl _ [] rfl (own_empty w3 5 .u8 (Nat.le_refl _)) w3.heap.size A r c rest rfl (hr3.out.alloc (Nat.le_refl _) _) (by simp [maxLen]; omega) (by simp; omega) (by simp) ?_; intro v5 w5 hown5 hg5 hat5; have hb5 : Below w3.heap.size w3 w5 := (own_empty w3 5 .u8 (Nat.le_refl _)).below_ ((Below.refl _ _).alloc (Nat.le_refl _) _) (by simp) hg5; simp only [List.nil_append] at hown5; have HO5 := Lib.hid hown5; have hr5 := Lib.hid ((HRB.out.below bl3.out).below (hb5.mono bl3.out.size)); clear hg5 hat5 hown5)
    | (at_builtin; refine wpList_append_ints _ rfl (.tmp 24) (.tmp 25) 29 rfl w3.heap.size 5 i0 _ 1 .u8 Tryd.underlying29 hi0 hz0 hz1 hzb rfl _ rest rfl HO5.out w.heap.size A' L c' b rfl hr5.out (by rw [HLR.out]; simp [maxLen]; omega) (by rw [HLR.out]; omega) (by have := hb5.size; omega) ?_; intro v6 w6 hown6 hg6 hat6; have hb6 : Below w3.heap.size w3 w6 := HO5.out.below_ hb5 hb5.size hg6; rw [HJ.out] at hown6; obtain ⟨A6, c6, rfl, hc6, _⟩ := hown6.form; have HO6 := Lib.hid hown6; clear hg6 hat6 hown6 hb5)
    | (go_at_call 29; (with_reducible refine (HC1.out A6 c6 w6 (HO6.out.rd rfl) hc6).mono ?_); rintro e w7 ⟨A7, c7, A8, c8', rfl, how7, hrd7, hc8', hb7⟩; have hk7 := Lib.hid (((hk3.out.below hb6 hk3.out.lt)).below hb7 (by have := hk3.out.lt; have := hb6.size; omega)); have hk7v := Lib.hid (((hk1c.out.below hb6 hk1c.out.lt)).below hb7 (by have := hk1c.out.lt; have := hb6.size; omega)); have bl7 := Lib.hid ((bl3.out.trans (hb6.mono bl3.out.size)).trans (hb7.mono (by have := hb6.size; have := bl3.out.size; omega))); have HO7 := Lib.hid how7; rw [HD.out] at hrd7; have HR7 := Lib.hid ((hrd7.below hb7).mono hb7.size); clear how7 hrd7))
  have HWS : Ws w w.heap.size w1.heap.size V (wrV Z8 none 0 0 0) w7 := by
    have q1 := hs1.out
    exact ⟨hk7v.out, hk7.out, bl7.out, hb1.size, by omega⟩
  obtain ⟨g2, hg2⟩ : ∃ g, w.heap.size = g := ⟨_, rfl⟩
  obtain ⟨g4, hg4⟩ : ∃ g, w1.heap.size = g := ⟨_, rfl⟩
  have HW := Lib.hid hg2
  rw [hg2, hg4] at HWS
  rw [hg2, hg4]
  have HS8 := Lib.hid (show ∀ W, WsW w g2 g4 V W → W.rangeAt g2 0 (s.map (Value.int .u32)) from fun W h => HST.out W g2 h.blk)
  have HS9 := Lib.hid (show ∀ W, WsW w g2 g4 V W → W.cell? ⟨g2, 9, none⟩ = some (.int .u64 n) from fun W h => by rw [h.blk.cell]; exact HC9.out)
  have HA7 := Lib.hid (HO7.out.rd rfl)
  have HBV := Lib.hid (fun (a : Act) (o : Oper) (x y z : Operand) W => build_wr (a := a) (o := o) (x := x) (y := y) (z := z) W X HXL.out A8 D.length c8' (n + L))
  have ZS := Lib.hid (show (wrV Z8 none 0 0 0).size = (wrV X A8 D.length c8' (n + L)).size by rw [wrV_size _ rfl, wrV_size _ HXL.out])
  have SX := Lib.hid (sizedW X HXL.out A8 D.length c8' (n + L))
  have OX := Lib.hid (wrV_ones X A8 D.length c8' (n + L))
  rw [← HDL.out]
  have HC8L := Lib.hid (show D.length ≤ c8' by rw [HDL.out]; exact hc8')
  rw [← HDL.out] at HR7
  clear hk1 hs1 hb1 hk2 hs2 hb2 hk1b bl2 hb3 hk3 bl3 hk1c c8 c9 hr3 HO5 hr5 hb6 HO6 hk7 hk7v hb7 hg2 hg4 hc8'
  have hwr : IntKind.u64.wrap (n + (L : Int)) = n + L := by rw [IntKind.wrap_u64]; omega
  have hwL : IntKind.u64.wrap (L : Int) = L := by rw [IntKind.wrap_u64]; omega
  have HWd := HWS.drew
  have HA7d := Lib.hid (show RdA .u8 64 w7.drew w7.drew.heap.size A7 BS.length BS from HA7.out)
  have HR7d := Lib.hid (show Rd .u8 w7.drew w7.drew.heap.size A8 D.length D from HR7.out)
  refine wp_region_held_drew (S := WsW w g2 g4 V) (by kernel_rfl) (⟨_, HWd⟩) (fun hH => ?_)
  refine held_val 0 rfl (by kernel_rfl) (by kernel_rfl) (by kernel_rfl) (fun _ _ _ _ h => h) (by rfl) (.pointer (some ⟨g2, 0, none⟩)) (fun W h => by go_simp) hH ?_
  try simp only [Act.put, List.setIfInBounds_toArray, List.set_cons_zero, List.set_cons_succ]
  refine held_load_mid 1 rfl (by kernel_rfl) (by kernel_rfl) (by kernel_rfl) (fun _ _ _ _ h => h) (by rfl) 33 (.tmp 30) rfl g2 0 (by kernel_rfl) (s.map (Value.int .u32)) HS8.out _ Tryd.underlying33 rfl SS.out hH ?_
  try simp only [Act.put, List.setIfInBounds_toArray, List.set_cons_zero, List.set_cons_succ]
  refine held_val 2 rfl (by kernel_rfl) (by kernel_rfl) (by kernel_rfl) (fun _ _ _ _ h => h) (by rfl) (.slice A7 BS.length c7) (fun W h => by go_simp) hH ?_
  try simp only [Act.put, List.setIfInBounds_toArray, List.set_cons_zero, List.set_cons_succ]
  refine held_val 4 rfl (by kernel_rfl) (by kernel_rfl) (by kernel_rfl) (fun _ _ _ _ h => h) (by rfl) (.slice A8 D.length c8') (fun W h => by go_simp) hH ?_
  try simp only [Act.put, List.setIfInBounds_toArray, List.set_cons_zero, List.set_cons_succ]
  refine held_val 5 rfl (by kernel_rfl) (by kernel_rfl) (by kernel_rfl) (fun _ _ _ _ h => h) (by rfl) (.pointer (some ⟨g2, 9, none⟩)) (fun W h => by go_simp) hH ?_
  try simp only [Act.put, List.setIfInBounds_toArray, List.set_cons_zero, List.set_cons_succ]
  refine held_val 6 rfl (by kernel_rfl) (by kernel_rfl) (by kernel_rfl) (fun _ _ _ _ h => h) (by rfl) (.int .u64 n) (fun W h => by have c := HS9.out W h; go_simp) hH ?_
  try simp only [Act.put, List.setIfInBounds_toArray, List.set_cons_zero, List.set_cons_succ]
  refine held_val 7 rfl (by kernel_rfl) (by kernel_rfl) (by kernel_rfl) (fun _ _ _ _ h => h) (by rfl) (.slice A' L c') (fun W h => by go_simp) hH ?_
  try simp only [Act.put, List.setIfInBounds_toArray, List.set_cons_zero, List.set_cons_succ]
  refine held_val 8 rfl (by kernel_rfl) (by kernel_rfl) (by kernel_rfl) (fun _ _ _ _ h => h) (by rfl) (.int .i64 (L : Int)) (fun W h => by go_simp) hH ?_
  try simp only [Act.put, List.setIfInBounds_toArray, List.set_cons_zero, List.set_cons_succ]
  refine held_val 9 rfl (by kernel_rfl) (by kernel_rfl) (by kernel_rfl) (fun _ _ _ _ h => h) (by rfl) (.int .u64 (L : Int)) (fun W h => by go_simp) hH ?_
  try simp only [Act.put, List.setIfInBounds_toArray, List.set_cons_zero, List.set_cons_succ]
  refine held_val 10 rfl (by kernel_rfl) (by kernel_rfl) (by kernel_rfl) (fun _ _ _ _ h => h) (by rfl) (.int .u64 (n + L)) (fun W h => by go_simp) hH ?_
  try simp only [Act.put, List.setIfInBounds_toArray, List.set_cons_zero, List.set_cons_succ]
  refine wpAnyH_ready (rs := [3]) (by kernel_rfl) (by decide) ?_
  refine AllReadyH.cons rfl (fun K hK => ?_) AllReadyH.nil
  go_simp
  refine (HT1.out A7 BS.length c7 w7.drew HA7d.out (by rw [HBL.out]; omega)).mono ?_
  rintro e w9 ⟨rfl, hbw9⟩
  have h9 := HWd.below hbw9
  refine hK.out _ _ ⟨_, h9⟩ (fun hH9 => ?_)
  clear hK K
  try simp only [Act.put, List.setIfInBounds_toArray, List.set_cons_zero, List.set_cons_succ]
  refine held_val 11 rfl (by kernel_rfl) (by kernel_rfl) (by kernel_rfl) (fun _ _ _ _ h => h) (by rfl) (.agg (wrV X A8 D.length c8' (n + L))) (fun W h => HBV.out _ _ _ _ _ W rfl (by kernel_rfl) (by kernel_rfl) (by kernel_rfl)) hH9 ?_
  try simp only [Act.put, List.setIfInBounds_toArray, List.set_cons_zero, List.set_cons_succ]
  refine held_store_any 12 rfl (by kernel_rfl) (by rfl) 36 (.tmp 4) (.tmp 41) rfl g4 (by kernel_rfl) 36 (wrV Z8 none 0 0 0) (wrV X A8 D.length c8' (n + L)) h9.2.1 (by kernel_rfl) ZS.out SX.out OX.out ?_
  intro w10 hkw10 hbw10 how10
  refine ⟨⟨_, h9.store hkw10.out hbw10 how10⟩, ?_⟩
  try simp only [Act.put, List.setIfInBounds_toArray, List.set_cons_zero, List.set_cons_succ]
  refine held_val 13 rfl (by kernel_rfl) (by kernel_rfl) (by kernel_rfl) (fun _ _ _ _ h => h) (by rfl) (.int .i64 0) (fun W h => by go_simp) ⟨_, h9.store hkw10.out hbw10 how10⟩ ?_
  try simp only [Act.put, List.setIfInBounds_toArray, List.set_cons_zero, List.set_cons_succ]
  refine wpAnyH_done (by kernel_rfl) ?_ _
  have HN := Lib.hid (h9.store hkw10.out hbw10 how10)
  have HRF := Lib.hid (((HR7d.out.below hbw9).other how10 ((HR7d.out.below hbw9).apart h9.2.1)).fit)
  go_wp2_with (refine bodyPost_any2 4 5 36 rfl g4 rfl (.int .i64 0) rfl 36 (wrV X A8 D.length c8' (n + L)) hkw10.out _ Tryd.underlying36 rfl SX.out rfl ?_)
  exact ⟨A8, c8', rfl, HRF.out, HC8L.out, HN.out.2.2.1⟩
end Go.Proofs.YtjdceadglfnnbaaDoor
