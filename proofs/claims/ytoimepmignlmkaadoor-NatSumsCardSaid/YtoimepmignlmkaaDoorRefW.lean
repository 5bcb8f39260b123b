/-
  What drawlotref10's Text return.
  Conditions: limbs lie in their type's range; the numbers have at most 100,000 limbs.
-/
import Derived.Test.YtoimepmignlmkaaDoorRefV
set_option maxRecDepth 100000
set_option linter.unusedSimpArgs false
namespace Go.Proofs.YtoimepmignlmkaaDoor
open Go.ChangeShapes Go.WideShapes Go.ChangeAt Go.RowKit
set_option linter.unusedVariables false
set_option maxHeartbeats 4000000 in
theorem r10text_c (xs : List Int) (hx : Lim xs) (A : Option Addr) (n c : Nat) (hnc : n ≤ c) (hcm : c ≤ maxLen) (w : World) (hra : Rd .u32 w w.heap.size A n xs) : Calls Tryd.prog 31 #[.slice A n c] w fun e w' => e = .returned (.string (strB (textR xs))) ∧ Below w.heap.size w w' := by
  have hr1 := fun W h => r10right_c xs A n c (by omega) W h
  have HRA := Lib.hid hra
  cases h1 : rightN xs with
  | false =>
    have e1 : textR xs = [] := by unfold textR; rw [h1]; rfl
    have HE1 : Hid (strB (textR xs) = { data := #[] }) := Lib.hid (by rw [e1]; rfl)
    rw [h1] at hr1
    have HR1 := Lib.hid hr1
    clear hr1 h1 e1 hra hx hnc hcm
    go_enter Tryd.func31, Tryd.ntmps31
    go_wp2_with (first
      | (go_at_call 23; (with_reducible refine (HR1.out _ HRA.out).mono ?_); rintro e _ ⟨rfl, rfl⟩))
    go_ret
    rw [HE1.out]
    exact ⟨rfl, Below.refl _ _⟩
  | true =>
    have e1 : textR xs = decL (valL xs) := by unfold textR; rw [h1]; rfl
    have hcan := rightN_can hx h1
    have hla := hra.len
    have hn256 : n ≤ 256 := by rw [← hla]; exact rightN_len h1
    rw [h1] at hr1
    have HR1 := Lib.hid hr1
    have hln : (natL (valL xs)).length = n := by rw [← hcan]; exact hla
    have HR0 : Hid (Rd .u32 w w.heap.size A (natL (valL xs)).length (natL (valL xs))) := Lib.hid (by rw [hln, ← hcan]; exact hra)
    have HS0 : Hid (decL (valL xs) ++ [] = textR xs) := Lib.hid (by rw [e1, List.append_nil])
    have HTL : Hid ((textR xs).length ≤ 8193) := Lib.hid (by rw [e1]; exact textR_len hx h1)
    have HLN := Lib.hid hln
    have HNC := Lib.hid hnc
    have HCM := Lib.hid hcm
    obtain ⟨D, hD⟩ : ∃ D, textR xs = D := ⟨_, rfl⟩
    rw [hD] at HS0 HTL ⊢
    clear hr1 h1 e1 hcan hra hx hnc hcm hD hla hln
    go_enter Tryd.func31, Tryd.ntmps31
    go_wp2_with (first
      | (go_at_call 23; (with_reducible refine (HR1.out _ HRA.out).mono ?_); rintro e _ ⟨rfl, rfl⟩))
    go_loopw [0, 3] (fun a s wr => ∃ (cur : Nat) (acc : List Int) (A' : Option Addr) (c' : Nat), a = .slice A' (natL cur).length c' ∧ s = .string (strB acc) ∧ decL cur ++ acc = D ∧ (natL cur).length ≤ 256 ∧ (natL cur).length ≤ c' ∧ c' ≤ maxLen ∧ Rd .u32 wr wr.heap.size A' (natL cur).length (natL cur) ∧ Below w.heap.size w wr) (fun _ s _ => D.length - sizeOfS s)
    case atStart => exact ⟨valL xs, [], A, c, by rw [HLN.out], rfl, HS0.out, by rw [HLN.out]; exact hn256, by rw [HLN.out]; exact HNC.out, HCM.out, HR0.out, Below.refl _ _⟩
    case round =>
      clear HS0 HR0 HLN
      obtain ⟨cur, acc, A', c', rfl, rfl, hdec, hl, hlc, hcm, hrd, hbl⟩ := hrel
      obtain ⟨d1, d2, d3⟩ := div10 cur hl
      have hdv := fun W h => r10div_c (natL cur) (natL_lim cur) A' (natL cur).length c' (by omega) 10 (by omega) (by omega) W h
      rw [d1, d2, d3] at hdv
      have hl10 := natL_len10 cur hl
      have hz10 := natL_len0 (n := cur / 10)
      obtain ⟨r, hr⟩ : ∃ r, cur % 10 = r := ⟨_, rfl⟩
      rw [hr] at hdv
      have hr10 : (r : Int) < 10 := by omega
      obtain ⟨dg, hdg⟩ : ∃ z : Int, 48 + (r : Int) = z := ⟨_, rfl⟩
      have hw8 : IntKind.u8.wrap dg = dg := by rw [IntKind.wrap_u8]; omega
      have hw64 : IntKind.u64.wrap dg = dg := by rw [IntKind.wrap_u64]; omega
      have HRD := Lib.hid hrd
      have HBL := Lib.hid hbl
      have HSB := Lib.hid (strB_cons dg acc)
      have HSO := Lib.hid (fun W => strN_one W dg)
      have hss : ¬ (9223372036854775807 < (strB [dg]).size + (strB acc).size) := by
        rw [strB_size, strB_size, List.length_singleton]
        have h1 : acc.length ≤ D.length := by rw [← hdec, List.length_append]; omega
        have h2 := HTL.out
        omega
      by_cases hq : cur / 10 = 0
      · have hsm : cur < 10 := by omega
        rw [decL_small hsm] at hdec
        have hcr : (cur : Int) = (r : Int) := by omega
        have HD : Hid (strB (dg :: acc) = strB D) := Lib.hid (by rw [← hdec, hcr, hdg]; rfl)
        rw [hq, natL_zero] at hdv
        have HDV := Lib.hid hdv
        clear hdv hz10 hl10 d1 d2 d3 hdec hrd hbl hl hlc hcm hq hsm hcr hr
        go_wp2_with (first
          | (go_at_call 18; (with_reducible refine (HDV.out _ HRD.out).mono ?_); rintro e w5 ⟨A5, c5, rfl, hl5, hm5, hr5, hb5⟩; have HB5 := Lib.hid (HBL.out.trans (hb5.mono HBL.out.size)); have s5 := HSO.out w5; clear hl5 hm5 hr5 hb5))
        go_ret
        exact ⟨ret_str (HSB.out.trans HD.out), HB5.out.trans ((Below.refl _ _).alloc HB5.out.size _)⟩
      · have hbig : ¬ cur < 10 := by omega
        rw [decL_big hbig, hr, hdg] at hdec
        have hdec2 : decL (cur / 10) ++ (dg :: acc) = D := by rw [← hdec, List.append_assoc]; rfl
        have hlen : (natL (cur / 10)).length ≠ 0 := fun h => hq (hz10.1 h)
        obtain ⟨q, hqq⟩ : ∃ q, cur / 10 = q := ⟨_, rfl⟩
        rw [hqq] at hdv hl10 hdec2 hlen
        obtain ⟨Z, hZ⟩ : ∃ Z, natL q = Z := ⟨_, rfl⟩
        have HZ := Lib.hid hZ
        rw [hZ] at hdv hl10 hlen
        have hZ0 : ((Z.length : Int) == 0) = false := by rw [beq_eq_false_iff_ne]; omega
        have hZ1 : ¬ Z = [] := fun h => hlen (by rw [h]; rfl)
        have HDV := Lib.hid hdv
        have HD := Lib.hid hdec2
        have HL10 := Lib.hid hl10
        have HMS : Hid (D.length - (strB (dg :: acc)).size < D.length - (strB acc).size) := Lib.hid (by
          rw [strB_size, strB_size, List.length_cons]
          have : (decL q ++ (dg :: acc)).length = D.length := by rw [hdec2]
          rw [List.length_append, List.length_cons] at this
          omega)
        clear hdv hz10 d1 d2 d3 hdec hdec2 hrd hbl hl hlc hcm hq hbig hr hlen hl10 hZ hqq
        go_wp2_with (first
          | (go_at_call 18; (with_reducible refine (HDV.out _ HRD.out).mono ?_); rintro e w5 ⟨A5, c5, rfl, hl5, hm5, hr5, hb5⟩; have HB5 := Lib.hid (HBL.out.trans (hb5.mono HBL.out.size)); have s5 := HSO.out w5; have HL5 := Lib.hid hl5; have HM5 := Lib.hid hm5; have HR5 := Lib.hid (hr5.alloc (Nat.le_refl _) (.cells #[.int .u8 dg] 5)).fit; clear hl5 hm5 hr5 hb5))
        go_roundw
        case rel => exact ⟨q, dg :: acc, A5, c5, by rw [HZ.out], by rw [HSB.out], HD.out, by rw [HZ.out]; exact HL10.out, by rw [HZ.out]; exact HL5.out, HM5.out, by rw [HZ.out]; exact HR5.out, HB5.out.trans ((Below.refl _ _).alloc HB5.out.size _)⟩
        case measure => rw [HSB.out]; exact HMS.out
end Go.Proofs.YtoimepmignlmkaaDoor
