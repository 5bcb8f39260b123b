/-
  What stage 5's laws share.
  Conditions: those that each theorem names.
-/
import Derived.Test.YtjdceadglfnnbaaDoorLawF
import Derived.Test.YtjdceadglfnnbaaDoorOpenB
set_option linter.unusedVariables false
set_option linter.unusedSimpArgs false
namespace Go.Proofs.YtjdceadglfnnbaaDoor
open Go.ChangeShapes Go.WideShapes Go.ChangeAt Go.RowKit
theorem RdRows.mono {w : World} {B B' n : Nat} {A : Option Addr} {rs : List Row} (h : RdRows w B A n rs) (hB : B ≤ B') : RdRows w B' A n rs :=
  ⟨h.1, fun hn => by
    obtain ⟨b, off, e, hlt, hc⟩ := h.2.1 hn
    exact ⟨b, off, e, by omega, hc⟩, fun r hr => ⟨(h.2.2 r hr).1.mono hB, (h.2.2 r hr).2⟩⟩
theorem RdRows.to {w w' : World} {n : Nat} {A : Option Addr} {rs : List Row} (h : RdRows w w.heap.size A n rs) (hb : Below w.heap.size w w') : RdRows w' w'.heap.size A n rs := (h.below hb).mono hb.size
theorem Rd.to {k : IntKind} {w w' : World} {n : Nat} {A : Option Addr} {zs : List Int} (h : Rd k w w.heap.size A n zs) (hb : Below w.heap.size w w') : Rd k w' w'.heap.size A n zs := (h.below hb).mono hb.size
theorem eq_hash (zs ys : List Int) (hz : zs.length = 32) (hy : ys.length = 32) (w : World) : (Op.equalIn 10000 26 (.agg (intsA .u8 zs)) (.agg (intsA .u8 ys))).run Tryd.prog w = .ok (decide (zs = ys)) w := by
  obtain ⟨i0, hi, _, hs, _⟩ := info_parts info_u8'
  exact run_equal_ints Tryd.underlying26 Tryd.underlying5 hi hs (by kernel_rfl) zs ys hz hy w
theorem same_hash (zs : List Int) (hz : zs.length = 32) (w : World) : (Op.equalIn 10000 26 (.agg (intsA .u8 zs)) (.agg (intsA .u8 zs))).run Tryd.prog w = .ok true w := by
  have := eq_hash zs zs hz hz w
  rwa [decide_eq_true rfl] at this
theorem u8b {l : List Int} (h : ∀ z ∈ l, (Lit.int .u8 z).wf = true) : ∀ z ∈ l, 0 ≤ z ∧ z < 256 := fun z hz => by have := bounds_u8 (h z hz); omega
theorem u32b {l : List Int} (h : ∀ z ∈ l, (Lit.int .u32 z).wf = true) : WIn l := fun z hz => by have := bounds_u32 (h z hz); omega
theorem rows_ok {rs : List Row} (hg : greatB rs = false) (hw : ∀ r ∈ rs, r.n ≤ maxLen ∧ r.zs.length = r.n ∧ ∀ z ∈ r.zs, (Lit.int .u8 z).wf = true) : RowsOk rs ∧ ∀ r ∈ rs, r.zs.length ≤ 500 := by
  unfold greatB at hg
  rw [Bool.or_eq_false_iff, decide_eq_false_iff_not] at hg
  obtain ⟨h1, h2⟩ := hg
  have h3 : ∀ r ∈ rs, r.zs.length ≤ 500 := by
    intro r hr
    have := List.any_eq_false.1 h2 r hr
    rw [(hw r hr).2.1]
    simpa using this
  exact ⟨⟨by omega, fun r hr => ⟨by have := h3 r hr; omega, u8b (hw r hr).2.2⟩⟩, h3⟩
theorem join_in {rs : List Row} (hk : RowsOk rs) : ∀ z ∈ joinL rs, 0 ≤ z ∧ z < 256 := by
  intro z hz
  unfold joinL at hz
  obtain ⟨l, hl, hz⟩ := List.mem_flatten.1 hz
  obtain ⟨r, hr, rfl⟩ := List.mem_map.1 hl
  exact (hk.2 r hr).2 z hz
theorem join_len {rs : List Row} (hk : RowsOk rs) (h5 : ∀ r ∈ rs, r.zs.length ≤ 500) : (joinL rs).length ≤ 10000 := by
  have h1 := joinL_len rs 500 h5
  have h2 := Nat.mul_le_mul_right 500 hk.1
  omega
end Go.Proofs.YtjdceadglfnnbaaDoor
