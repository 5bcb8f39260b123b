/-
  Any hash's text, and any text's hash, are the document's, or refused; each comes back; of up to 200 bytes.
  Conditions: the program's table of constants reads, when the call begins, as its text lays it (the card ties that).
-/
import Derived.Test.YtjdceadglfnnbaaDoorLawH
import Derived.Test.YtjdceadglfnnbaaDoorLawG
import Derived.ChangeMaps5
import Derived.ShutString
import Derived.Test.YtjdceadglfnnbaaDoorCompK
import Derived.Test.YtjdceadglfnnbaaDoorTie
import Derived.Test.YtjdceadglfnnbaaDoorCards
import Derived.SevenTiedAt
import Derived.ChangeOld
set_option linter.unusedSimpArgs false
namespace Go.Proofs.YtjdceadglfnnbaaDoor.shaTexts
open Go.ChangeShapes Go.WideShapes Go.ChangeAt Go.RowKit
set_option linter.unusedVariables false

theorem own : ownKnob Tryd.prog.godebug = none := by kernel_rfl
theorem laidOut : laidOutB Tryd.prog = true := by kernel_rfl

/-- What the last test keeps. -/
def T5 (w : World) (g2 g5 g7 g9 : Nat) (h R : List Int) (w' : World) : Prop := BlkI w' g2 26 .u8 h ∧ BlkI w' g5 26 .u8 R ∧ BlkI w' g7 26 .u8 R ∧ BlkI w' g9 26 .u8 h ∧ Below w.heap.size w w'
theorem T5.below {w w' w'' : World} {g2 g5 g7 g9 : Nat} {h R : List Int} (k : T5 w g2 g5 g7 g9 h R w') (hb : Below w'.heap.size w' w'') : T5 w g2 g5 g7 g9 h R w'' := ⟨k.1.below hb k.1.lt, k.2.1.below hb k.2.1.lt, k.2.2.1.below hb k.2.2.1.lt, k.2.2.2.1.below hb k.2.2.2.1.lt, k.2.2.2.2.trans (hb.mono k.2.2.2.2.size)⟩
theorem T5.drew {w w' : World} {g2 g5 g7 g9 : Nat} {h R : List Int} (k : T5 w g2 g5 g7 g9 h R w') : T5 w g2 g5 g7 g9 h R w'.drew := ⟨k.1, k.2.1, k.2.2.1, k.2.2.2.1, k.2.2.2.2.drew⟩
section
variable {P : Program} {ops : Array Oper} {Q : Exit → Act → World → Prop} {md : Region.Mode} {S : World → Prop} {fuel : Nat} {listed : Array Bool} {a : Act} {w : World}
/-- An operation that is not wanted: taken first. -/
theorem held_skip {oi : Oper} (i : Nat) (hi : ops[i]? = some oi) (hs : Region.noSelect ops = true) (hf : Region.free md ops listed i = true) (hr : (Region.ready md ops listed).contains i = true)
    (hQ2 : ∀ c a v w, Q (.panic c) (a.put oi.dst v) w → Q (.panic c) a w) (hw : Region.wanted oi (yielded ops a.tmps) = false) (hSw : S w)
    (h : wpAnyH P md ops Q S fuel (listed.setIfInBounds i true) (a.put oi.dst undef) w) : wpAnyH P md ops Q S (fuel + 1) listed a w :=
  wpAnyH_take hi hs hf hr (fun c a w => hQ2 c a _ w) (.inr ⟨hw, rfl⟩) hSw h
end
theorem par_back (h : List Int) (hl : h.length = 32) (hh : ∀ z ∈ h, 0 ≤ z ∧ z < 256) (w : World) : Calls Tryd.prog 22 #[.string (strB (textL h))] w fun e w' => e = .returned (.tuple #[.agg (intsA .u8 h), .int .i64 0]) ∧ Below w.heap.size w w' := by
  have k := qparse_c (strB (textL h)) (by rw [strB_size, textL_len]; omega) w
  obtain ⟨h1, h2⟩ := parse_text h hl hh
  rw [strB_bytesI _ (textL_in h hh), h1, h2] at k
  exact k
set_option maxRecDepth 100000 in
set_option maxHeartbeats 4000000 in
theorem of_walk (h : List Int) (s : ByteArray) (w : World) (hl : h.length = 32) (hh : ∀ z ∈ h, 0 ≤ z ∧ z < 256) (hs : s.size ≤ maxLen) (hkst : Kst w) :
    Calls Tryd.prog 6 #[.agg (intsA .u8 h), .string s] w fun e w' => e = .returned (.bool true) ∧ Below w.heap.size w w' := by
  unfold maxLen at hs
  have HKST := Lib.hid hkst
  clear hkst
  by_cases h200 : 200 < s.size
  · go_enter Tryd.func6, Tryd.ntmps6
    go_wp2_with (first
      | (with_reducible refine at_any ?_; refine at_dst 2 rfl ?_; refine wpList_box_ints rfl 26 (.tmp 0) rfl .u8 h rfl ?_; intro w1 k2 hs1 hb1)
      | (go_at_call 7; (with_reducible refine (alive5_c _ (HKST.out.below hb1)).mono ?_); rintro e w2 ⟨rfl, hb2⟩; have bl2 := Lib.hid (hb1.trans (hb2.mono hb1.size))))
    go_ret
    exact ⟨rfl, bl2.out⟩
  obtain ⟨Z, hZ⟩ : ∃ Z : List Int, List.replicate 32 0 = Z := ⟨_, rfl⟩
  have zero_h := zero_hash
  have QP := Lib.hid (fun W => qparse_c s (by omega) W)
  have RP := Lib.hid (fun W => rparse_c s (by omega) W)
  have SH := Lib.hid (show (Tryd.prog.info? 26).map (·.size) = some h.length by rw [hl]; exact size_hash)
  have LZH := Lib.hid (show Z.length = h.length by rw [← hZ, hl]; simp)
  have QT := Lib.hid (fun W => qtext_c h hl hh W)
  have RT := Lib.hid (fun W => rtext_c h hl hh W)
  have QB := Lib.hid (fun W => par_back h hl hh W)
  have EH := fun W => same_hash h hl W
  obtain ⟨X, hX⟩ : ∃ X, strB (textL h) = X := ⟨_, rfl⟩
  rw [hX] at QT RT QB
  clear hX
  by_cases hok : parseOk (bytesI s) = true
  · rw [hok] at QP RP
    simp only [if_true] at QP RP
    have hRl := parseTo_len (bytesI s) 32
    have hRi := parseTo_in (bytesI s) 32 (by unfold parseOk at hok; rw [Bool.and_eq_true] at hok; exact hok.2)
    have QR := Lib.hid (fun W => qtext_c (parseTo (bytesI s) 32) hRl hRi W)
    rw [text_parse _ hok, bytesI_strB] at QR
    obtain ⟨R, hR⟩ : ∃ R, parseTo (bytesI s) 32 = R := ⟨_, rfl⟩
    rw [hR] at QP RP QR hRl
    have ER := fun W => same_hash R hRl W
    have SR := Lib.hid (show (Tryd.prog.info? 26).map (·.size) = some R.length by rw [hRl]; exact size_hash)
    have LZR := Lib.hid (show Z.length = R.length by rw [← hZ, hRl]; simp)
    rw [hZ] at zero_h
    have ZH := Lib.hid zero_h
    clear hok hR hRl hRi hZ zero_h
    have zero_h := ZH.out
    go_enter Tryd.func6, Tryd.ntmps6
    go_wp2_with (first
      | (with_reducible refine at_any ?_; refine at_dst 2 rfl ?_; refine wpList_box_ints rfl 26 (.tmp 0) rfl .u8 h rfl ?_; intro w1 k2 hs1 hb1)
      | (go_at_call 7; (with_reducible refine (alive5_c _ (HKST.out.below hb1)).mono ?_); rintro e w2 ⟨rfl, hb2⟩; have bl2 := Lib.hid (hb1.trans (hb2.mono hb1.size)); have k2a := Lib.hid (k2.out.below hb2 k2.out.lt))
      | (go_at_call 22; (with_reducible refine (QP.out w2).mono ?_); rintro e w3 ⟨rfl, hb3⟩; have bl3 := Lib.hid (bl2.out.trans (hb3.mono bl2.out.size)); have k2b := Lib.hid (k2a.out.below hb3 k2a.out.lt))
      | (with_reducible refine at_any ?_; refine at_dst 5 rfl ?_; refine wpList_alloc_ints rfl 26 rfl .u8 Z zero_h ?_; intro w4 k5' hs4 hb4; have bl4 := Lib.hid (bl3.out.trans (hb4.mono bl3.out.size)); have k2c := Lib.hid (k2b.out.below hb4 k2b.out.lt))
      | (with_reducible refine at_any ?_; refine at_store 5 rfl ?_; refine wpList_store_ints rfl 26 (.tmp 5) (.tmp 19) rfl w3.heap.size rfl 26 .u8 Z R k5'.out rfl LZR.out SR.out ?_; intro w5 k5 hs5 hb5 ho5; have bl5 := Lib.hid (bl4.out.trans (hb5 _ bl3.out.size)); have k2d := Lib.hid (k2c.out.below (hb5 _ (Nat.le_refl _)) k2b.out.lt))
      | (go_at_call 23; (with_reducible refine (RP.out w5).mono ?_); rintro e w6 ⟨rfl, hb6⟩; have bl6 := Lib.hid (bl5.out.trans (hb6.mono bl5.out.size)); have k2e := Lib.hid (k2d.out.below hb6 k2d.out.lt); have k5e := Lib.hid (k5.out.below hb6 k5.out.lt))
      | (with_reducible refine at_any ?_; refine at_dst 7 rfl ?_; refine wpList_alloc_ints rfl 26 rfl .u8 Z zero_h ?_; intro w7 k7' hs7 hb7; have bl7 := Lib.hid (bl6.out.trans (hb7.mono bl6.out.size)); have k2f := Lib.hid (k2e.out.below hb7 k2e.out.lt); have k5f := Lib.hid (k5e.out.below hb7 k5e.out.lt))
      | (with_reducible refine at_any ?_; refine at_store 7 rfl ?_; refine wpList_store_ints rfl 26 (.tmp 7) (.tmp 24) rfl w6.heap.size rfl 26 .u8 Z R k7'.out rfl LZR.out SR.out ?_; intro w8 k7 hs8 hb8 ho8; have bl8 := Lib.hid (bl7.out.trans (hb8 _ bl6.out.size)); have k2g := Lib.hid (k2f.out.below (hb8 _ (Nat.le_refl _)) k2e.out.lt); have k5g := Lib.hid (k5f.out.below (hb8 _ (Nat.le_refl _)) k5e.out.lt))
      | (with_reducible refine at_any ?_; refine at_dst 27 rfl ?_; refine wpList_load_ints rfl 26 (.tmp 2) rfl w.heap.size rfl 26 .u8 h k2g.out _ Tryd.underlying26 rfl SH.out ?_)
      | (go_at_call 24; (with_reducible refine (QT.out w8).mono ?_); rintro e w9 ⟨rfl, hb9⟩; have bl9 := Lib.hid (bl8.out.trans (hb9.mono bl8.out.size)); have k2h := Lib.hid (k2g.out.below hb9 k2g.out.lt); have k5h := Lib.hid (k5g.out.below hb9 k5g.out.lt); have k7h := Lib.hid (k7.out.below hb9 k7.out.lt))
      | (go_at_call 22; (with_reducible refine (QB.out w9).mono ?_); rintro e w10 ⟨rfl, hb10⟩; have bl10 := Lib.hid (bl9.out.trans (hb10.mono bl9.out.size)); have k2i := Lib.hid (k2h.out.below hb10 k2h.out.lt); have k5i := Lib.hid (k5h.out.below hb10 k5h.out.lt); have k7i := Lib.hid (k7h.out.below hb10 k7h.out.lt))
      | (with_reducible refine at_any ?_; refine at_dst 9 rfl ?_; refine wpList_alloc_ints rfl 26 rfl .u8 Z zero_h ?_; intro w11 k9' hs11 hb11; have bl11 := Lib.hid (bl10.out.trans (hb11.mono bl10.out.size)); have k2j := Lib.hid (k2i.out.below hb11 k2i.out.lt); have k5j := Lib.hid (k5i.out.below hb11 k5i.out.lt); have k7j := Lib.hid (k7i.out.below hb11 k7i.out.lt))
      | (with_reducible refine at_any ?_; refine at_store 9 rfl ?_; refine wpList_store_ints rfl 26 (.tmp 9) (.tmp 30) rfl w10.heap.size rfl 26 .u8 Z h k9'.out rfl LZH.out SH.out ?_; intro w12 k9 hs12 hb12 ho12; have bl12 := Lib.hid (bl11.out.trans (hb12 _ bl10.out.size)); have k2k := Lib.hid (k2j.out.below (hb12 _ (Nat.le_refl _)) k2i.out.lt); have k5k := Lib.hid (k5j.out.below (hb12 _ (Nat.le_refl _)) k5i.out.lt); have k7k := Lib.hid (k7j.out.below (hb12 _ (Nat.le_refl _)) k7i.out.lt)))
    have HT : T5 w w.heap.size w3.heap.size w6.heap.size w10.heap.size h R w12 := ⟨k2k.out, k5k.out, k7k.out, k9.out, bl12.out⟩
    obtain ⟨g2, hg2⟩ : ∃ g, w.heap.size = g := ⟨_, rfl⟩
    obtain ⟨g5, hg5⟩ : ∃ g, w3.heap.size = g := ⟨_, rfl⟩
    obtain ⟨g7, hg7⟩ : ∃ g, w6.heap.size = g := ⟨_, rfl⟩
    obtain ⟨g9, hg9⟩ : ∃ g, w10.heap.size = g := ⟨_, rfl⟩
    have HW := Lib.hid hg2
    rw [hg2, hg5, hg7, hg9] at HT
    rw [hg2, hg5, hg7, hg9]
    clear hg2 hg5 hg7 hg9 k2 hs1 hb1 hb2 bl2 k2a hb3 bl3 k2b k5' hs4 hb4 bl4 k2c k5 hs5 hb5 ho5 bl5 k2d hb6 bl6 k2e k5e k7' hs7 hb7 bl7 k2f k5f k7 hs8 hb8 ho8 bl8 k2g k5g hb9 bl9 k2h k5h k7h hb10 bl10 k2i k5i k7i k9' hs11 hb11 bl11 k2j k5j k7j k9 hs12 hb12 ho12 bl12 k2k k5k k7k
    refine wp_region_held_drew (S := T5 w g2 g5 g7 g9 h R) (by kernel_rfl) (HT.drew) (fun h0 => ?_)
    refine held_load 0 rfl (by kernel_rfl) (by kernel_rfl) (by kernel_rfl) (fun _ _ _ _ h => h) (by kernel_rfl) 26 (.tmp 5) rfl g5 (by kernel_rfl) 26 .u8 R (fun _ h => h.2.1) _ Tryd.underlying26 rfl SR.out h0 ?_
    try simp only [Act.put, List.setIfInBounds_toArray, List.set_cons_zero, List.set_cons_succ]
    refine held_load 1 rfl (by kernel_rfl) (by kernel_rfl) (by kernel_rfl) (fun _ _ _ _ h => h) (by kernel_rfl) 26 (.tmp 7) rfl g7 (by kernel_rfl) 26 .u8 R (fun _ h => h.2.2.1) _ Tryd.underlying26 rfl SR.out h0 ?_
    try simp only [Act.put, List.setIfInBounds_toArray, List.set_cons_zero, List.set_cons_succ]
    refine held_val 2 rfl (by kernel_rfl) (by kernel_rfl) (by kernel_rfl) (fun _ _ _ _ h => h) (by kernel_rfl) (.bool true) (fun W h => by go_simp) h0 ?_
    try simp only [Act.put, List.setIfInBounds_toArray, List.set_cons_zero, List.set_cons_succ]
    refine held_val 3 rfl (by kernel_rfl) (by kernel_rfl) (by kernel_rfl) (fun _ _ _ _ h => h) (by kernel_rfl) (.bool true) (fun W h => by go_simp) h0 ?_
    try simp only [Act.put, List.setIfInBounds_toArray, List.set_cons_zero, List.set_cons_succ]
    refine held_val 4 rfl (by kernel_rfl) (by kernel_rfl) (by kernel_rfl) (fun _ _ _ _ h => h) (by kernel_rfl) (.int .i64 0) (fun W h => by go_simp) h0 ?_
    try simp only [Act.put, List.setIfInBounds_toArray, List.set_cons_zero, List.set_cons_succ]
    refine held_val 5 rfl (by kernel_rfl) (by kernel_rfl) (by kernel_rfl) (fun _ _ _ _ h => h) (by kernel_rfl) (.int .i64 0) (fun W h => by go_simp) h0 ?_
    try simp only [Act.put, List.setIfInBounds_toArray, List.set_cons_zero, List.set_cons_succ]
    refine held_val 6 rfl (by kernel_rfl) (by kernel_rfl) (by kernel_rfl) (fun _ _ _ _ h => h) (by kernel_rfl) (.bool true) (fun W h => by go_simp) h0 ?_
    try simp only [Act.put, List.setIfInBounds_toArray, List.set_cons_zero, List.set_cons_succ]
    refine held_val 7 rfl (by kernel_rfl) (by kernel_rfl) (by kernel_rfl) (fun _ _ _ _ h => h) (by kernel_rfl) (.bool true) (fun W h => by go_simp) h0 ?_
    try simp only [Act.put, List.setIfInBounds_toArray, List.set_cons_zero, List.set_cons_succ]
    refine held_val 8 rfl (by kernel_rfl) (by kernel_rfl) (by kernel_rfl) (fun _ _ _ _ h => h) (by kernel_rfl) (.bool true) (fun W h => by go_simp) h0 ?_
    try simp only [Act.put, List.setIfInBounds_toArray, List.set_cons_zero, List.set_cons_succ]
    refine held_load 9 rfl (by kernel_rfl) (by kernel_rfl) (by kernel_rfl) (fun _ _ _ _ h => h) (by kernel_rfl) 26 (.tmp 2) rfl g2 (by kernel_rfl) 26 .u8 h (fun _ h => h.1) _ Tryd.underlying26 rfl SH.out h0 ?_
    try simp only [Act.put, List.setIfInBounds_toArray, List.set_cons_zero, List.set_cons_succ]
    refine held_load 11 rfl (by kernel_rfl) (by kernel_rfl) (by kernel_rfl) (fun _ _ _ _ h => h) (by kernel_rfl) 26 (.tmp 2) rfl g2 (by kernel_rfl) 26 .u8 h (fun _ h => h.1) _ Tryd.underlying26 rfl SH.out h0 ?_
    try simp only [Act.put, List.setIfInBounds_toArray, List.set_cons_zero, List.set_cons_succ]
    refine wpAnyH_ready (rs := [10]) (by kernel_rfl) (by decide) ?_
    refine AllReadyH.cons rfl (fun K hK => ?_) AllReadyH.nil
    go_simp
    refine (QT.out _).mono ?_
    rintro e w21 ⟨rfl, hbw21⟩
    refine hK.out _ _ (h0.below hbw21) (fun h1 => ?_)
    clear hK K
    try simp only [Act.put, List.setIfInBounds_toArray, List.set_cons_zero, List.set_cons_succ]
    refine wpAnyH_ready (rs := [12]) (by kernel_rfl) (by decide) ?_
    refine AllReadyH.cons rfl (fun K hK => ?_) AllReadyH.nil
    go_simp
    refine (RT.out _).mono ?_
    rintro e w22 ⟨rfl, hbw22⟩
    refine hK.out _ _ (h1.below hbw22) (fun h2 => ?_)
    clear hK K
    try simp only [Act.put, List.setIfInBounds_toArray, List.set_cons_zero, List.set_cons_succ]
    refine held_val 13 rfl (by kernel_rfl) (by kernel_rfl) (by kernel_rfl) (fun _ _ _ _ h => h) (by kernel_rfl) (.bool true) (fun W h => by go_simp) h2 ?_
    try simp only [Act.put, List.setIfInBounds_toArray, List.set_cons_zero, List.set_cons_succ]
    refine held_val 14 rfl (by kernel_rfl) (by kernel_rfl) (by kernel_rfl) (fun _ _ _ _ h => h) (by kernel_rfl) (.bool true) (fun W h => by go_simp) h2 ?_
    try simp only [Act.put, List.setIfInBounds_toArray, List.set_cons_zero, List.set_cons_succ]
    refine held_val 15 rfl (by kernel_rfl) (by kernel_rfl) (by kernel_rfl) (fun _ _ _ _ h => h) (by kernel_rfl) (.bool true) (fun W h => by go_simp) h2 ?_
    try simp only [Act.put, List.setIfInBounds_toArray, List.set_cons_zero, List.set_cons_succ]
    refine held_val 16 rfl (by kernel_rfl) (by kernel_rfl) (by kernel_rfl) (fun _ _ _ _ h => h) (by kernel_rfl) (.int .i64 0) (fun W h => by go_simp) h2 ?_
    try simp only [Act.put, List.setIfInBounds_toArray, List.set_cons_zero, List.set_cons_succ]
    refine held_val 17 rfl (by kernel_rfl) (by kernel_rfl) (by kernel_rfl) (fun _ _ _ _ h => h) (by kernel_rfl) (.bool true) (fun W h => by go_simp) h2 ?_
    try simp only [Act.put, List.setIfInBounds_toArray, List.set_cons_zero, List.set_cons_succ]
    refine held_val 18 rfl (by kernel_rfl) (by kernel_rfl) (by kernel_rfl) (fun _ _ _ _ h => h) (by kernel_rfl) (.bool true) (fun W h => by go_simp) h2 ?_
    try simp only [Act.put, List.setIfInBounds_toArray, List.set_cons_zero, List.set_cons_succ]
    refine held_val 19 rfl (by kernel_rfl) (by kernel_rfl) (by kernel_rfl) (fun _ _ _ _ h => h) (by kernel_rfl) (.bool true) (fun W h => by go_simp) h2 ?_
    try simp only [Act.put, List.setIfInBounds_toArray, List.set_cons_zero, List.set_cons_succ]
    refine held_load 20 rfl (by kernel_rfl) (by kernel_rfl) (by kernel_rfl) (fun _ _ _ _ h => h) (by kernel_rfl) 26 (.tmp 9) rfl g9 (by kernel_rfl) 26 .u8 h (fun _ h => h.2.2.2.1) _ Tryd.underlying26 rfl SH.out h2 ?_
    try simp only [Act.put, List.setIfInBounds_toArray, List.set_cons_zero, List.set_cons_succ]
    refine held_load 21 rfl (by kernel_rfl) (by kernel_rfl) (by kernel_rfl) (fun _ _ _ _ h => h) (by kernel_rfl) 26 (.tmp 2) rfl g2 (by kernel_rfl) 26 .u8 h (fun _ h => h.1) _ Tryd.underlying26 rfl SH.out h2 ?_
    try simp only [Act.put, List.setIfInBounds_toArray, List.set_cons_zero, List.set_cons_succ]
    refine held_val 22 rfl (by kernel_rfl) (by kernel_rfl) (by kernel_rfl) (fun _ _ _ _ h => h) (by kernel_rfl) (.bool true) (fun W h => by go_simp) h2 ?_
    try simp only [Act.put, List.setIfInBounds_toArray, List.set_cons_zero, List.set_cons_succ]
    refine held_val 23 rfl (by kernel_rfl) (by kernel_rfl) (by kernel_rfl) (fun _ _ _ _ h => h) (by kernel_rfl) (.bool true) (fun W h => by go_simp) h2 ?_
    try simp only [Act.put, List.setIfInBounds_toArray, List.set_cons_zero, List.set_cons_succ]
    refine held_val 24 rfl (by kernel_rfl) (by kernel_rfl) (by kernel_rfl) (fun _ _ _ _ h => h) (by kernel_rfl) (.bool true) (fun W h => by go_simp) h2 ?_
    try simp only [Act.put, List.setIfInBounds_toArray, List.set_cons_zero, List.set_cons_succ]
    refine held_val 25 rfl (by kernel_rfl) (by kernel_rfl) (by kernel_rfl) (fun _ _ _ _ h => h) (by kernel_rfl) (.int .i64 0) (fun W h => by go_simp) h2 ?_
    try simp only [Act.put, List.setIfInBounds_toArray, List.set_cons_zero, List.set_cons_succ]
    refine held_val 26 rfl (by kernel_rfl) (by kernel_rfl) (by kernel_rfl) (fun _ _ _ _ h => h) (by kernel_rfl) (.bool false) (fun W h => by go_simp) h2 ?_
    try simp only [Act.put, List.setIfInBounds_toArray, List.set_cons_zero, List.set_cons_succ]
    refine held_val 27 rfl (by kernel_rfl) (by kernel_rfl) (by kernel_rfl) (fun _ _ _ _ h => h) (by kernel_rfl) (.bool false) (fun W h => by go_simp) h2 ?_
    try simp only [Act.put, List.setIfInBounds_toArray, List.set_cons_zero, List.set_cons_succ]
    refine held_load 28 rfl (by kernel_rfl) (by kernel_rfl) (by kernel_rfl) (fun _ _ _ _ h => h) (by kernel_rfl) 26 (.tmp 5) rfl g5 (by kernel_rfl) 26 .u8 R (fun _ h => h.2.1) _ Tryd.underlying26 rfl SR.out h2 ?_
    try simp only [Act.put, List.setIfInBounds_toArray, List.set_cons_zero, List.set_cons_succ]
    refine held_val 30 rfl (by kernel_rfl) (by kernel_rfl) (by kernel_rfl) (fun _ _ _ _ h => h) (by kernel_rfl) (.string s) (fun W h => by go_simp) h2 ?_
    try simp only [Act.put, List.setIfInBounds_toArray, List.set_cons_zero, List.set_cons_succ]
    refine wpAnyH_ready (rs := [29]) (by kernel_rfl) (by decide) ?_
    refine AllReadyH.cons rfl (fun K hK => ?_) AllReadyH.nil
    go_simp
    refine (QR.out _).mono ?_
    rintro e w23 ⟨rfl, hbw23⟩
    refine hK.out _ _ (h2.below hbw23) (fun h3 => ?_)
    clear hK K
    try simp only [Act.put, List.setIfInBounds_toArray, List.set_cons_zero, List.set_cons_succ]
    refine held_val 31 rfl (by kernel_rfl) (by kernel_rfl) (by kernel_rfl) (fun _ _ _ _ h => h) (by kernel_rfl) (.bool true) (fun W h => by go_simp) h3 ?_
    refine held_val 32 rfl (by kernel_rfl) (by kernel_rfl) (by kernel_rfl) (fun _ _ _ _ h => h) (by kernel_rfl) (.bool true) (fun W h => by go_simp) h3 ?_
    refine held_val 33 rfl (by kernel_rfl) (by kernel_rfl) (by kernel_rfl) (fun _ _ _ _ h => h) (by kernel_rfl) (.bool true) (fun W h => by go_simp) h3 ?_
    refine held_val 34 rfl (by kernel_rfl) (by kernel_rfl) (by kernel_rfl) (fun _ _ _ _ h => h) (by kernel_rfl) (.bool true) (fun W h => by go_simp) h3 ?_
    refine wpAnyH_done (by kernel_rfl) ?_ _
    go_wp2
    go_ret
    refine ⟨rfl, ?_⟩
    first | exact h3.2.2.2.2 | (rw [HW.out]; exact h3.2.2.2.2)
  · have hok' : parseOk (bytesI s) = false := by simpa using hok
    rw [hok'] at QP RP
    simp only [Bool.false_eq_true, if_false] at QP RP
    rw [hZ] at QP RP zero_h
    obtain ⟨R, hR⟩ : ∃ R, Z = R := ⟨_, rfl⟩
    have hRl : R.length = 32 := by rw [← hR, ← hZ]; simp
    have ER := fun W => same_hash R hRl W
    have SR := Lib.hid (show (Tryd.prog.info? 26).map (·.size) = some R.length by rw [hRl]; exact size_hash)
    have LZR := Lib.hid (show Z.length = R.length by rw [hR])
    subst hR
    clear hok hok' hRl hZ
    go_enter Tryd.func6, Tryd.ntmps6
    go_wp2_with (first
      | (with_reducible refine at_any ?_; refine at_dst 2 rfl ?_; refine wpList_box_ints rfl 26 (.tmp 0) rfl .u8 h rfl ?_; intro w1 k2 hs1 hb1)
      | (go_at_call 7; (with_reducible refine (alive5_c _ (HKST.out.below hb1)).mono ?_); rintro e w2 ⟨rfl, hb2⟩; have bl2 := Lib.hid (hb1.trans (hb2.mono hb1.size)); have k2a := Lib.hid (k2.out.below hb2 k2.out.lt))
      | (go_at_call 22; (with_reducible refine (QP.out w2).mono ?_); rintro e w3 ⟨rfl, hb3⟩; have bl3 := Lib.hid (bl2.out.trans (hb3.mono bl2.out.size)); have k2b := Lib.hid (k2a.out.below hb3 k2a.out.lt))
      | (with_reducible refine at_any ?_; refine at_dst 5 rfl ?_; refine wpList_alloc_ints rfl 26 rfl .u8 Z zero_h ?_; intro w4 k5' hs4 hb4; have bl4 := Lib.hid (bl3.out.trans (hb4.mono bl3.out.size)); have k2c := Lib.hid (k2b.out.below hb4 k2b.out.lt))
      | (with_reducible refine at_any ?_; refine at_store 5 rfl ?_; refine wpList_store_ints rfl 26 (.tmp 5) (.tmp 19) rfl w3.heap.size rfl 26 .u8 Z Z k5'.out rfl rfl SR.out ?_; intro w5 k5 hs5 hb5 ho5; have bl5 := Lib.hid (bl4.out.trans (hb5 _ bl3.out.size)); have k2d := Lib.hid (k2c.out.below (hb5 _ (Nat.le_refl _)) k2b.out.lt))
      | (go_at_call 23; (with_reducible refine (RP.out w5).mono ?_); rintro e w6 ⟨rfl, hb6⟩; have bl6 := Lib.hid (bl5.out.trans (hb6.mono bl5.out.size)); have k2e := Lib.hid (k2d.out.below hb6 k2d.out.lt); have k5e := Lib.hid (k5.out.below hb6 k5.out.lt))
      | (with_reducible refine at_any ?_; refine at_dst 7 rfl ?_; refine wpList_alloc_ints rfl 26 rfl .u8 Z zero_h ?_; intro w7 k7' hs7 hb7; have bl7 := Lib.hid (bl6.out.trans (hb7.mono bl6.out.size)); have k2f := Lib.hid (k2e.out.below hb7 k2e.out.lt); have k5f := Lib.hid (k5e.out.below hb7 k5e.out.lt))
      | (with_reducible refine at_any ?_; refine at_store 7 rfl ?_; refine wpList_store_ints rfl 26 (.tmp 7) (.tmp 24) rfl w6.heap.size rfl 26 .u8 Z Z k7'.out rfl rfl SR.out ?_; intro w8 k7 hs8 hb8 ho8; have bl8 := Lib.hid (bl7.out.trans (hb8 _ bl6.out.size)); have k2g := Lib.hid (k2f.out.below (hb8 _ (Nat.le_refl _)) k2e.out.lt); have k5g := Lib.hid (k5f.out.below (hb8 _ (Nat.le_refl _)) k5e.out.lt))
      | (with_reducible refine at_any ?_; refine at_dst 27 rfl ?_; refine wpList_load_ints rfl 26 (.tmp 2) rfl w.heap.size rfl 26 .u8 h k2g.out _ Tryd.underlying26 rfl SH.out ?_)
      | (go_at_call 24; (with_reducible refine (QT.out w8).mono ?_); rintro e w9 ⟨rfl, hb9⟩; have bl9 := Lib.hid (bl8.out.trans (hb9.mono bl8.out.size)); have k2h := Lib.hid (k2g.out.below hb9 k2g.out.lt); have k5h := Lib.hid (k5g.out.below hb9 k5g.out.lt); have k7h := Lib.hid (k7.out.below hb9 k7.out.lt))
      | (go_at_call 22; (with_reducible refine (QB.out w9).mono ?_); rintro e w10 ⟨rfl, hb10⟩; have bl10 := Lib.hid (bl9.out.trans (hb10.mono bl9.out.size)); have k2i := Lib.hid (k2h.out.below hb10 k2h.out.lt); have k5i := Lib.hid (k5h.out.below hb10 k5h.out.lt); have k7i := Lib.hid (k7h.out.below hb10 k7h.out.lt))
      | (with_reducible refine at_any ?_; refine at_dst 9 rfl ?_; refine wpList_alloc_ints rfl 26 rfl .u8 Z zero_h ?_; intro w11 k9' hs11 hb11; have bl11 := Lib.hid (bl10.out.trans (hb11.mono bl10.out.size)); have k2j := Lib.hid (k2i.out.below hb11 k2i.out.lt); have k5j := Lib.hid (k5i.out.below hb11 k5i.out.lt); have k7j := Lib.hid (k7i.out.below hb11 k7i.out.lt))
      | (with_reducible refine at_any ?_; refine at_store 9 rfl ?_; refine wpList_store_ints rfl 26 (.tmp 9) (.tmp 30) rfl w10.heap.size rfl 26 .u8 Z h k9'.out rfl LZH.out SH.out ?_; intro w12 k9 hs12 hb12 ho12; have bl12 := Lib.hid (bl11.out.trans (hb12 _ bl10.out.size)); have k2k := Lib.hid (k2j.out.below (hb12 _ (Nat.le_refl _)) k2i.out.lt); have k5k := Lib.hid (k5j.out.below (hb12 _ (Nat.le_refl _)) k5i.out.lt); have k7k := Lib.hid (k7j.out.below (hb12 _ (Nat.le_refl _)) k7i.out.lt)))
    have HT : T5 w w.heap.size w3.heap.size w6.heap.size w10.heap.size h Z w12 := ⟨k2k.out, k5k.out, k7k.out, k9.out, bl12.out⟩
    obtain ⟨g2, hg2⟩ : ∃ g, w.heap.size = g := ⟨_, rfl⟩
    obtain ⟨g5, hg5⟩ : ∃ g, w3.heap.size = g := ⟨_, rfl⟩
    obtain ⟨g7, hg7⟩ : ∃ g, w6.heap.size = g := ⟨_, rfl⟩
    obtain ⟨g9, hg9⟩ : ∃ g, w10.heap.size = g := ⟨_, rfl⟩
    have HW := Lib.hid hg2
    rw [hg2, hg5, hg7, hg9] at HT
    rw [hg2, hg5, hg7, hg9]
    clear hg2 hg5 hg7 hg9 k2 hs1 hb1 hb2 bl2 k2a hb3 bl3 k2b k5' hs4 hb4 bl4 k2c k5 hs5 hb5 ho5 bl5 k2d hb6 bl6 k2e k5e k7' hs7 hb7 bl7 k2f k5f k7 hs8 hb8 ho8 bl8 k2g k5g hb9 bl9 k2h k5h k7h hb10 bl10 k2i k5i k7i k9' hs11 hb11 bl11 k2j k5j k7j k9 hs12 hb12 ho12 bl12 k2k k5k k7k
    refine wp_region_held_drew (S := T5 w g2 g5 g7 g9 h Z) (by kernel_rfl) (HT.drew) (fun h0 => ?_)
    refine held_load 0 rfl (by kernel_rfl) (by kernel_rfl) (by kernel_rfl) (fun _ _ _ _ h => h) (by kernel_rfl) 26 (.tmp 5) rfl g5 (by kernel_rfl) 26 .u8 Z (fun _ h => h.2.1) _ Tryd.underlying26 rfl SR.out h0 ?_
    try simp only [Act.put, List.setIfInBounds_toArray, List.set_cons_zero, List.set_cons_succ]
    refine held_load 1 rfl (by kernel_rfl) (by kernel_rfl) (by kernel_rfl) (fun _ _ _ _ h => h) (by kernel_rfl) 26 (.tmp 7) rfl g7 (by kernel_rfl) 26 .u8 Z (fun _ h => h.2.2.1) _ Tryd.underlying26 rfl SR.out h0 ?_
    try simp only [Act.put, List.setIfInBounds_toArray, List.set_cons_zero, List.set_cons_succ]
    refine held_val 2 rfl (by kernel_rfl) (by kernel_rfl) (by kernel_rfl) (fun _ _ _ _ h => h) (by kernel_rfl) (.bool true) (fun W h => by go_simp) h0 ?_
    try simp only [Act.put, List.setIfInBounds_toArray, List.set_cons_zero, List.set_cons_succ]
    refine held_val 3 rfl (by kernel_rfl) (by kernel_rfl) (by kernel_rfl) (fun _ _ _ _ h => h) (by kernel_rfl) (.bool true) (fun W h => by go_simp) h0 ?_
    try simp only [Act.put, List.setIfInBounds_toArray, List.set_cons_zero, List.set_cons_succ]
    refine held_val 4 rfl (by kernel_rfl) (by kernel_rfl) (by kernel_rfl) (fun _ _ _ _ h => h) (by kernel_rfl) (.int .i64 2) (fun W h => by go_simp) h0 ?_
    try simp only [Act.put, List.setIfInBounds_toArray, List.set_cons_zero, List.set_cons_succ]
    refine held_val 5 rfl (by kernel_rfl) (by kernel_rfl) (by kernel_rfl) (fun _ _ _ _ h => h) (by kernel_rfl) (.int .i64 2) (fun W h => by go_simp) h0 ?_
    try simp only [Act.put, List.setIfInBounds_toArray, List.set_cons_zero, List.set_cons_succ]
    refine held_val 6 rfl (by kernel_rfl) (by kernel_rfl) (by kernel_rfl) (fun _ _ _ _ h => h) (by kernel_rfl) (.bool true) (fun W h => by go_simp) h0 ?_
    try simp only [Act.put, List.setIfInBounds_toArray, List.set_cons_zero, List.set_cons_succ]
    refine held_val 7 rfl (by kernel_rfl) (by kernel_rfl) (by kernel_rfl) (fun _ _ _ _ h => h) (by kernel_rfl) (.bool true) (fun W h => by go_simp) h0 ?_
    try simp only [Act.put, List.setIfInBounds_toArray, List.set_cons_zero, List.set_cons_succ]
    refine held_val 8 rfl (by kernel_rfl) (by kernel_rfl) (by kernel_rfl) (fun _ _ _ _ h => h) (by kernel_rfl) (.bool true) (fun W h => by go_simp) h0 ?_
    try simp only [Act.put, List.setIfInBounds_toArray, List.set_cons_zero, List.set_cons_succ]
    refine held_load 9 rfl (by kernel_rfl) (by kernel_rfl) (by kernel_rfl) (fun _ _ _ _ h => h) (by kernel_rfl) 26 (.tmp 2) rfl g2 (by kernel_rfl) 26 .u8 h (fun _ h => h.1) _ Tryd.underlying26 rfl SH.out h0 ?_
    try simp only [Act.put, List.setIfInBounds_toArray, List.set_cons_zero, List.set_cons_succ]
    refine held_load 11 rfl (by kernel_rfl) (by kernel_rfl) (by kernel_rfl) (fun _ _ _ _ h => h) (by kernel_rfl) 26 (.tmp 2) rfl g2 (by kernel_rfl) 26 .u8 h (fun _ h => h.1) _ Tryd.underlying26 rfl SH.out h0 ?_
    try simp only [Act.put, List.setIfInBounds_toArray, List.set_cons_zero, List.set_cons_succ]
    refine wpAnyH_ready (rs := [10]) (by kernel_rfl) (by decide) ?_
    refine AllReadyH.cons rfl (fun K hK => ?_) AllReadyH.nil
    go_simp
    refine (QT.out _).mono ?_
    rintro e w21 ⟨rfl, hbw21⟩
    refine hK.out _ _ (h0.below hbw21) (fun h1 => ?_)
    clear hK K
    try simp only [Act.put, List.setIfInBounds_toArray, List.set_cons_zero, List.set_cons_succ]
    refine wpAnyH_ready (rs := [12]) (by kernel_rfl) (by decide) ?_
    refine AllReadyH.cons rfl (fun K hK => ?_) AllReadyH.nil
    go_simp
    refine (RT.out _).mono ?_
    rintro e w22 ⟨rfl, hbw22⟩
    refine hK.out _ _ (h1.below hbw22) (fun h2 => ?_)
    clear hK K
    try simp only [Act.put, List.setIfInBounds_toArray, List.set_cons_zero, List.set_cons_succ]
    refine held_val 13 rfl (by kernel_rfl) (by kernel_rfl) (by kernel_rfl) (fun _ _ _ _ h => h) (by kernel_rfl) (.bool true) (fun W h => by go_simp) h2 ?_
    try simp only [Act.put, List.setIfInBounds_toArray, List.set_cons_zero, List.set_cons_succ]
    refine held_val 14 rfl (by kernel_rfl) (by kernel_rfl) (by kernel_rfl) (fun _ _ _ _ h => h) (by kernel_rfl) (.bool true) (fun W h => by go_simp) h2 ?_
    try simp only [Act.put, List.setIfInBounds_toArray, List.set_cons_zero, List.set_cons_succ]
    refine held_val 15 rfl (by kernel_rfl) (by kernel_rfl) (by kernel_rfl) (fun _ _ _ _ h => h) (by kernel_rfl) (.bool true) (fun W h => by go_simp) h2 ?_
    try simp only [Act.put, List.setIfInBounds_toArray, List.set_cons_zero, List.set_cons_succ]
    refine held_val 16 rfl (by kernel_rfl) (by kernel_rfl) (by kernel_rfl) (fun _ _ _ _ h => h) (by kernel_rfl) (.int .i64 0) (fun W h => by go_simp) h2 ?_
    try simp only [Act.put, List.setIfInBounds_toArray, List.set_cons_zero, List.set_cons_succ]
    refine held_val 17 rfl (by kernel_rfl) (by kernel_rfl) (by kernel_rfl) (fun _ _ _ _ h => h) (by kernel_rfl) (.bool true) (fun W h => by go_simp) h2 ?_
    try simp only [Act.put, List.setIfInBounds_toArray, List.set_cons_zero, List.set_cons_succ]
    refine held_val 18 rfl (by kernel_rfl) (by kernel_rfl) (by kernel_rfl) (fun _ _ _ _ h => h) (by kernel_rfl) (.bool true) (fun W h => by go_simp) h2 ?_
    try simp only [Act.put, List.setIfInBounds_toArray, List.set_cons_zero, List.set_cons_succ]
    refine held_val 19 rfl (by kernel_rfl) (by kernel_rfl) (by kernel_rfl) (fun _ _ _ _ h => h) (by kernel_rfl) (.bool true) (fun W h => by go_simp) h2 ?_
    try simp only [Act.put, List.setIfInBounds_toArray, List.set_cons_zero, List.set_cons_succ]
    refine held_load 20 rfl (by kernel_rfl) (by kernel_rfl) (by kernel_rfl) (fun _ _ _ _ h => h) (by kernel_rfl) 26 (.tmp 9) rfl g9 (by kernel_rfl) 26 .u8 h (fun _ h => h.2.2.2.1) _ Tryd.underlying26 rfl SH.out h2 ?_
    try simp only [Act.put, List.setIfInBounds_toArray, List.set_cons_zero, List.set_cons_succ]
    refine held_load 21 rfl (by kernel_rfl) (by kernel_rfl) (by kernel_rfl) (fun _ _ _ _ h => h) (by kernel_rfl) 26 (.tmp 2) rfl g2 (by kernel_rfl) 26 .u8 h (fun _ h => h.1) _ Tryd.underlying26 rfl SH.out h2 ?_
    try simp only [Act.put, List.setIfInBounds_toArray, List.set_cons_zero, List.set_cons_succ]
    refine held_val 22 rfl (by kernel_rfl) (by kernel_rfl) (by kernel_rfl) (fun _ _ _ _ h => h) (by kernel_rfl) (.bool true) (fun W h => by go_simp) h2 ?_
    try simp only [Act.put, List.setIfInBounds_toArray, List.set_cons_zero, List.set_cons_succ]
    refine held_val 23 rfl (by kernel_rfl) (by kernel_rfl) (by kernel_rfl) (fun _ _ _ _ h => h) (by kernel_rfl) (.bool true) (fun W h => by go_simp) h2 ?_
    try simp only [Act.put, List.setIfInBounds_toArray, List.set_cons_zero, List.set_cons_succ]
    refine held_val 24 rfl (by kernel_rfl) (by kernel_rfl) (by kernel_rfl) (fun _ _ _ _ h => h) (by kernel_rfl) (.bool true) (fun W h => by go_simp) h2 ?_
    try simp only [Act.put, List.setIfInBounds_toArray, List.set_cons_zero, List.set_cons_succ]
    refine held_val 25 rfl (by kernel_rfl) (by kernel_rfl) (by kernel_rfl) (fun _ _ _ _ h => h) (by kernel_rfl) (.int .i64 2) (fun W h => by go_simp) h2 ?_
    try simp only [Act.put, List.setIfInBounds_toArray, List.set_cons_zero, List.set_cons_succ]
    refine held_val 26 rfl (by kernel_rfl) (by kernel_rfl) (by kernel_rfl) (fun _ _ _ _ h => h) (by kernel_rfl) (.bool true) (fun W h => by go_simp) h2 ?_
    try simp only [Act.put, List.setIfInBounds_toArray, List.set_cons_zero, List.set_cons_succ]
    refine held_val 27 rfl (by kernel_rfl) (by kernel_rfl) (by kernel_rfl) (fun _ _ _ _ h => h) (by kernel_rfl) (.bool true) (fun W h => by go_simp) h2 ?_
    try simp only [Act.put, List.setIfInBounds_toArray, List.set_cons_zero, List.set_cons_succ]
    refine held_skip 28 rfl (by kernel_rfl) (by kernel_rfl) (by kernel_rfl) (fun _ _ _ _ h => h) (by kernel_rfl) h2 ?_
    try simp only [Act.put, List.setIfInBounds_toArray, List.set_cons_zero, List.set_cons_succ]
    refine held_skip 30 rfl (by kernel_rfl) (by kernel_rfl) (by kernel_rfl) (fun _ _ _ _ h => h) (by kernel_rfl) h2 ?_
    try simp only [Act.put, List.setIfInBounds_toArray, List.set_cons_zero, List.set_cons_succ]
    refine wpAnyH_ready (rs := [29]) (by kernel_rfl) (by decide) ?_
    refine AllReadyH.cons rfl (fun K hK => ?_) AllReadyH.nil
    go_simp
    refine hK.out _ _ h2 (fun _ => ?_)
    clear hK K
    try simp only [Act.put, List.setIfInBounds_toArray, List.set_cons_zero, List.set_cons_succ]
    refine held_skip 31 rfl (by kernel_rfl) (by kernel_rfl) (by kernel_rfl) (fun _ _ _ _ h => h) (by kernel_rfl) h2 ?_
    refine held_val 32 rfl (by kernel_rfl) (by kernel_rfl) (by kernel_rfl) (fun _ _ _ _ h => h) (by kernel_rfl) (.bool true) (fun W h => by go_simp) h2 ?_
    refine held_val 33 rfl (by kernel_rfl) (by kernel_rfl) (by kernel_rfl) (fun _ _ _ _ h => h) (by kernel_rfl) (.bool true) (fun W h => by go_simp) h2 ?_
    refine held_val 34 rfl (by kernel_rfl) (by kernel_rfl) (by kernel_rfl) (fun _ _ _ _ h => h) (by kernel_rfl) (.bool true) (fun W h => by go_simp) h2 ?_
    refine wpAnyH_done (by kernel_rfl) ?_ _
    go_wp2
    go_ret
    refine ⟨rfl, ?_⟩
    first | exact h2.2.2.2.2 | (rw [HW.out]; exact h2.2.2.2.2)
theorem walk (a0 : List Int) (a1 : ByteArray) (w : World) (l0 : a0.length = 32) (w0 : ∀ z ∈ a0, (Lit.int .u8 z).wf = true) (w1 : a1.size ≤ maxLen) (hkst : Kst w) :
    Calls Tryd.prog 6 #[.agg (a0.map (Value.int .u8)).toArray, .string a1] w fun e w' => e = .returned (.bool true) ∧ Below w.heap.size w w' := of_walk a0 a1 w l0 (u8b w0) w1 hkst


set_option maxRecDepth 100000 in
theorem lifted (os : Os) (started : os.Started) (H : Type) (enc : TypeId × Value → H) :
    ReturnsInHanded {} Tryd.checked os 6 .any (fun w args => (Rows.shaTextsSpec.pre enc Tryd.prog Tryd.f6 [] false w args ∧ laidMetH Tryd.prog laidK w) ∧ sizedMet enc Tryd.prog Tryd.f6 (OpenSpec.ofChange Rows.shaTextsSpec) false w args) (Rows.shaTextsSpec.post enc Tryd.prog Tryd.f6 false true false false) := by
  refine returnsInHanded_of_change_and (C := Tryd.checked) (X := fun w _ => laidMetH Tryd.prog laidK w) (fun _ _ _ hh h => h.of_heap hh) own started (by kernel_rfl) Tryd.func6
    (ChangeSpec.witness_shaped (enc := enc) (C := Tryd.checked) (os := os) (X := fun w _ => laidMetH Tryd.prog laidK w) false (World.doorLaid Tryd.prog 400 os) #[.agg #[.int .u8 0, .int .u8 0, .int .u8 0, .int .u8 0, .int .u8 0, .int .u8 0, .int .u8 0, .int .u8 0, .int .u8 0, .int .u8 0, .int .u8 0, .int .u8 0, .int .u8 0, .int .u8 0, .int .u8 0, .int .u8 0, .int .u8 0, .int .u8 0, .int .u8 0, .int .u8 0, .int .u8 0, .int .u8 0, .int .u8 0, .int .u8 0, .int .u8 0, .int .u8 0, .int .u8 0, .int .u8 0, .int .u8 0, .int .u8 0, .int .u8 0, .int .u8 0], .string ⟨#[]⟩] 8 rfl (World.shaped_of_RefB (by kernel_rfl) (by kernel_rfl)) (by kernel_rfl) (by kernel_rfl) (by kernel_rfl) (door_met os _)) ?_
  intro W base args ds gs before hval0 hW _ _ hL _
  have hval : ∀ (j : Nat) t v, Tryd.f6.params[j]? = some t → args[j]? = some v → Value.okWide Tryd.prog W .any base t v := hval0
  have hW' := hW
  obtain ⟨p, q, hA0, hV, rfl, hfz, hnd⟩ := hW
  have hA : DataW.TrodAll enc Tryd.prog W 0 (fun _ => true) true Tryd.f6.params.toList args.toList ds p := hA0
  rw [Tryd.params6] at hA hval
  obtain ⟨v0, vs0, d0, ds0, p0, q0, hargs, rfl, rfl, h0, r0⟩ := trodAll_cons hA
  obtain ⟨v1, vs1, d1, ds1, p1, q1, rfl, rfl, rfl, h1, r1⟩ := trodAll_cons r0
  obtain ⟨rfl, rfl, rfl⟩ := trodAll_nil r1
  obtain rfl : args = #[v0, v1] := by cases args; simp_all
  obtain ⟨rfl, rfl⟩ := trodVars_none hV
  obtain ⟨a0, l0, rfl, rfl, rfl, w0⟩ := open_arr_ints Tryd.underlying26 Tryd.underlying5 (by kernel_rfl) (by kernel_rfl) (hval 0 26 v0 rfl rfl) h0
  obtain ⟨a1, rfl, rfl, rfl, w1⟩ := Go.ChangeMaps.open_string Tryd.underlying9 (hval 1 9 v1 rfl rfl) h1
  clear hA0 hval0
  refine (walk a0 a1 W l0 w0 w1 (kst_of_laid hL)).mono fun e W' ⟨he, bel⟩ => ?_
  subst he
  exact ⟨_, rfl, _, _, _, [], _, [], hW', trodAll_mk1 (shut_bool Tryd.underlying4 _), (trodAll_cons_mk (shut_arr_ints Tryd.underlying26 Tryd.underlying5 (by kernel_rfl) (by kernel_rfl) l0 w0) (trodAll_cons_mk (Go.ChangeMaps.shut_string Tryd.underlying9 w1) trodAll_mk0)), rfl, bel.frame _, fun h => by cases h⟩

theorem over : Rows.shaTextsRow.holds Tryd.pinned (OpenSpec.ofChange Rows.shaTextsSpec) :=
  OpenClaim.holds_of_wide 6 Tryd.f6 rfl rfl rfl rfl rfl rfl rfl ⟨rfl, rfl, rfl, rfl, rfl⟩ rfl rfl rfl rfl rfl (by kernel_rfl) Tryd.func6 (by kernel_rfl)
    (of_decide_eq_true (by kernel_rfl)) (by unfold Func.isWrapper; first | (rw [if_pos (by decide +kernel)]; kernel_rfl) | (rw [if_neg (by decide +kernel)]; exact ⟨rfl, rfl⟩))
    (fun os started H enc _ => lifted os started H enc)

end Go.Proofs.YtjdceadglfnnbaaDoor.shaTexts
namespace Go.Proofs.YtjdceadglfnnbaaDoor
theorem shaTexts_holds : Rows.ShaTextsCardSaid :=
  Claim7.holds_tied_plain_at .later [] [.data] true _ false
    shaTexts.over (fun _ h => by cases h) (by kernel_rfl) (fun _ h => by cases h) shaTexts_row_tie rfl ⟨rfl, rfl⟩ (by kernel_rfl) rfl
    (fun f fn hf hfn => by
      obtain rfl : f = 6 := Option.some.inj ((show Tryd.prog.funcNamed "drawlot/drawlotlaw05.ShaTexts" = some 6 by kernel_rfl).symm.trans hf) |>.symm
      obtain rfl : fn = Tryd.f6 := (Option.some.inj (Tryd.func6.symm.trans hfn)).symm
      exact ⟨by kernel_rfl, fun j t ht => by
        rw [Tryd.params6] at ht
        have hm : t ∈ [26, 9] := by simpa using Array.mem_of_getElem? ht
        have hall : ([26, 9].all fun u => !Tryd.prog.wantsStandIn u) = true := by kernel_rfl
        exact (show Tryd.prog.wantsStandIn t = false by simpa using List.all_eq_true.1 hall t hm)⟩)
    (by kernel_rfl)
#print axioms shaTexts_holds
end Go.Proofs.YtjdceadglfnnbaaDoor
