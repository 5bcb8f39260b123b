/-
  What the library's strconv.FormatUint returns at base ten, and strings.Repeat of a nought.
  Conditions: the number is below 10^18 (it is not checked here against more); the table of the powers of ten is as the program's text lays it.
-/
import Derived.Test.YtoimepmignlmkaaDoorNatI
import Derived.Test.YtoimepmignlmkaaDoorNatK
import Derived.Lib.ItoaMem
set_option maxRecDepth 100000
set_option linter.unusedSimpArgs false
namespace Go.Proofs.YtoimepmignlmkaaDoor
open Go.ChangeShapes Go.WideShapes Go.ChangeAt Go.RowKit Go.Sort
set_option linter.unusedVariables false
/-- The decimal digits of a number are the library's. -/
theorem decL_digits (n : Nat) : (decL n).map (fun z => UInt8.ofNat z.toNat) = Lib.decDigits n := by
  induction n using Nat.strongRecOn with
  | ind n ih =>
    by_cases h : n < 10
    · rw [decL_small h, Lib.decDigits, dif_pos h]
      show [UInt8.ofNat (48 + (n : Int)).toNat] = _
      rw [show (48 + (n : Int)).toNat = 48 + n by omega]
    · rw [decL_big h, Lib.decDigits, dif_neg h, List.map_append, ih (n / 10) (by omega)]
      show _ ++ [UInt8.ofNat (48 + ((n % 10 : Nat) : Int)).toNat] = _
      rw [show (48 + ((n % 10 : Nat) : Int)).toNat = 48 + n % 10 by omega]
theorem strB_digits (n : Nat) : (⟨(Lib.decDigits n).toArray⟩ : ByteArray) = strB (decL n) := by
  apply ByteArray.ext
  apply Array.ext'
  rw [strB_list, decL_digits]
theorem bel_grow (w : World) (k : Nat) (os : Array Obj) : Below w.heap.size w ((grow w os).drewN k) :=
  ⟨rfl, rfl, rfl, by simp, fun j hj => by
    show (grow w os).heap[j]? = _
    rw [heap_grow_old _ _ hj]⟩
set_option maxHeartbeats 4000000 in
theorem fmt_c (u : Nat) (hu : u < 1000000000000000000) (w : World) (hP : PowT w) : Calls Tryd.prog 53 #[.int .u64 (u : Int), .int .i64 10] w fun e w' => e = .returned (.string (strB (decL u))) ∧ Below w.heap.size w w' := by
  by_cases h100 : u < 100
  · have hs := fun W => Any.internal_strconv_small lays283 u h100 W
    have HS : Hid (∀ W, Calls Tryd.prog 62 #[.int .i64 (u : Int)] W fun e w' => e = .returned (.string (strB (decL u))) ∧ W = w') := Lib.hid (fun W => (hs W).mono fun e w' h => ⟨by rw [h.1, strB_digits], h.2.symm⟩)
    have f1 : IntKind.i64.wrap (u : Int) = (u : Int) := by rw [IntKind.wrap_i64]; omega
    have h1 : (u : Int) < 100 := by omega
    obtain ⟨S, hS⟩ : ∃ S, strB (decL u) = S := ⟨_, rfl⟩
    rw [hS] at HS ⊢
    clear hs hu h100 hP hS
    go_enter Tryd.func53, Tryd.ntmps53
    go_wp2_with (first
      | (go_at_call 62; (with_reducible refine (HS.out _).mono ?_); rintro e _ ⟨rfl, rfl⟩))
    go_ret
    exact ⟨rfl, Below.refl _ _⟩
  · have hu1 : 1 ≤ u := by omega
    have hu64 : u < 18446744073709551616 := by omega
    have hnd20 : Lib.nDigits u ≤ 20 := by have := Lib.numDigits_eq u hu1 hu64; split at this <;> omega
    have hal : Tryd.prog.arrayLen 79 = 24 := by kernel_rfl
    have hel : (Tryd.prog.underlying 79) = some (.array 24 5) := Tryd.underlying79
    obtain ⟨N, hN⟩ : ∃ N, Lib.nDigits u = N := ⟨_, rfl⟩
    have hsl1 : ∀ W, (Instr.sliceAt 79 (.pointer (some ⟨w.heap.size, 0, none⟩)) none (some (.int .i64 (N : Int))) none).run Tryd.prog W = .ok (.slice (some ⟨w.heap.size, 0, none⟩) N 24) W := fun W => by
      rw [run_sliceAt_array_h W 79 ⟨w.heap.size, 0, none⟩ (by simp [Program.arrayLen, Program.elem, hel]) .i64 (N : Int) (by omega) (by rw [hal]; omega)]
      go_simp
    have hH0 : Holds (fun (b : UInt8) => Value.int .u8 (b.toNat : Int)) (w.alloc (.cells Lib.zeros24 79)) w.heap.size 0 (Array.replicate N (0 : UInt8)) := fun j hj => by
      have hj' : j < N := by simpa using hj
      refine ⟨?_, World.frozen?_alloc_new _ _ _ _⟩
      rw [World.cell?_alloc_new, Lib.zeros24_at _ (by omega), getElem!_pos _ j hj]
      simp
    have hfmt := Any.internal_strconv_formatBase10 lays285 w.heap.size 0 24 u (Array.replicate N 0) (w.alloc (.cells Lib.zeros24 79)) hH0 (by rw [Array.size_replicate, ← hN]; exact Lib.lt_pow_nDigits u) hu64 (by rw [Array.size_replicate]; omega)
    rw [Array.size_replicate] at hfmt
    have hnd := Any.internal_strconv_numDigits lays284 u hu1 hu64 (w.alloc (.cells Lib.zeros24 79)) (hP.alloc _)
    rw [hN] at hnd
    have HND : Hid (Calls Tryd.prog 63 #[.int .u64 (u : Int)] (w.alloc (.cells Lib.zeros24 79)) fun e w' => e = .returned (.int .i64 (N : Int)) ∧ (w.alloc (.cells Lib.zeros24 79)) = w') := Lib.hid (hnd.mono fun e w' h => ⟨h.1, h.2.symm⟩)
    have HFMT : Hid (Calls Tryd.prog 64 #[.slice (some ⟨w.heap.size, 0, none⟩) N 24, .int .u64 (u : Int)] (w.alloc (.cells Lib.zeros24 79)) fun e w' => e = .returned (.tuple #[]) ∧ Below w.heap.size w w' ∧ (convert 58 9 (.slice (some ⟨w.heap.size, 0, none⟩) N 24)).run Tryd.prog w' = .ok (.string (strB (decL u))) w') := Lib.hid (hfmt.mono fun e w' h => by
      obtain ⟨rfl, k, v', dk, rfl, hF⟩ := h
      refine ⟨rfl, ?_, ?_⟩
      · rw [alloc_eq_grow]
        obtain ⟨os', _, e⟩ := putRow_grow_new (fun (b : UInt8) => Value.int .u8 (b.toNat : Int)) w #[.cells Lib.zeros24 79] w.heap.size 0 dk (Nat.le_refl _)
        rw [e]
        exact bel_grow w k os'
      · have h := run_convert_bytes_back (P := Tryd.prog) ((putRow (fun (b : UInt8) => Value.int .u8 (b.toNat : Int)) (w.alloc (.cells Lib.zeros24 79)) w.heap.size 0 dk).drewN k) 58 9 5 ⟨w.heap.size, 0, none⟩ 24 (Lib.decDigits u) Tryd.underlying58 Tryd.underlying5 Tryd.underlying9 (fun j hj => by
          have hF2 := hF
          rw [← hN] at hF2
          rw [Lib.row_is_numeral hF2 j hj, Lib.add_plain, World.cell?_drewN]
          exact cell?_putRow (fun (b : UInt8) => Value.int .u8 (b.toNat : Int)) _ w.heap.size 0 _ dk hH0 (by rw [hF.size, Array.size_replicate]) j (by rw [hF.size]; rw [Lib.decDigits_length, hN] at hj; exact hj))
        rw [Lib.decDigits_length, hN, strB_digits] at h
        exact h)
    have h1 : ¬ (u : Int) < 100 := by omega
    have hN24 : (N : Int) ≤ 24 := by omega
    obtain ⟨S, hS⟩ : ∃ S, strB (decL u) = S := ⟨_, rfl⟩
    rw [hS] at HFMT ⊢
    unfold Lib.zeros24 at HND HFMT
    clear hu hu1 hu64 h100 hal hel hN hH0 hfmt hnd hP hS hnd20
    go_enter Tryd.func53, Tryd.ntmps53
    go_wp2_with (first
      | (go_at_call 63; (with_reducible refine HND.out.mono ?_); rintro e _ ⟨rfl, rfl⟩)
      | (go_at_call 64; (with_reducible refine HFMT.out.mono ?_); rintro e w5 ⟨rfl, hb5, hc5⟩; have HB5 := Lib.hid hb5; clear hb5))
    go_ret
    exact ⟨rfl, HB5.out⟩
theorem fmtu_c (u : Nat) (hu : u < 1000000000000000000) (w : World) (hP : PowT w) : Calls Tryd.prog 47 #[.int .u64 (u : Int), .int .i64 10] w fun e w' => e = .returned (.string (strB (decL u))) ∧ Below w.heap.size w w' := by
  have HF := Lib.hid (fmt_c u hu w hP)
  obtain ⟨S, hS⟩ : ∃ S, strB (decL u) = S := ⟨_, rfl⟩
  rw [hS] at HF ⊢
  clear hu hP hS
  go_enter Tryd.func47, Tryd.ntmps47
  go_wp2_with (first
    | (go_at_call 53; (with_reducible refine HF.out.mono ?_); rintro e w5 ⟨rfl, hb5⟩; have HB5 := Lib.hid hb5; clear hb5))
  go_ret
  exact ⟨rfl, HB5.out⟩
end Go.Proofs.YtoimepmignlmkaaDoor
