/-
  Hashes as lists of numbers: a padded message's blocks; what a writer has taken, and what it makes of more.
  Conditions: those that each theorem names.
-/
import Derived.Test.YtdnjnbeoioicfaaDoorRefB
import Derived.Test.YtdnjnbeoioicfaaDoorShaP
namespace Go.Proofs.YtdnjnbeoioicfaaDoor
open Go.ChangeShapes Go.WideShapes Go.ChangeAt Go.RowKit
theorem padL_eq5 (b : List Int) : padL b = b ++ (128 :: (List.replicate (zer (b.length % 64)) 0 ++ put8L (8 * b.length))) := by
  have hd : (b.drop (b.length - b.length % 64)).length = b.length % 64 := by rw [List.length_drop]; omega
  unfold padL tailL
  rw [hd, ← List.append_assoc, ← List.append_assoc, List.take_append_drop]
  simp
theorem padL_len5 (b : List Int) : (padL b).length = 64 * ((b.length + 72) / 64) := by
  rw [padL_eq5, List.length_append, List.length_cons, List.length_append, List.length_replicate, show ∀ x, (put8L x).length = 8 from fun _ => rfl]
  unfold zer
  split <;> omega
theorem put8L_in (x : Int) (h0 : 0 ≤ x) (h1 : x < 18446744073709551616) : ∀ z ∈ put8L x, 0 ≤ z ∧ z < 256 := by
  intro z hz
  simp only [put8L, List.mem_cons, List.not_mem_nil, or_false] at hz
  rcases hz with h | h | h | h | h | h | h | h <;> subst h <;> omega
theorem tailL_in (r : List Int) (n : Int) (hr : ∀ z ∈ r, 0 ≤ z ∧ z < 256) (n0 : 0 ≤ n) (n1 : n < 2305843009213693952) : ∀ z ∈ tailL r n, 0 ≤ z ∧ z < 256 := by
  intro z hz
  unfold tailL at hz
  rcases List.mem_append.1 hz with h | h
  · rcases List.mem_append.1 h with h | h
    · exact hr z h
    · rcases List.mem_cons.1 h with h | h
      · omega
      · have := List.eq_of_mem_replicate h; omega
  · exact put8L_in _ (by omega) (by omega) z h
theorem padL_in (b : List Int) (hb : ∀ z ∈ b, 0 ≤ z ∧ z < 256) (hl : b.length < 2305843009213693952) : ∀ z ∈ padL b, 0 ≤ z ∧ z < 256 := by
  intro z hz
  unfold padL at hz
  rcases List.mem_append.1 hz with h | h
  · exact hb z (List.mem_of_mem_take h)
  · exact tailL_in _ _ (fun y hy => hb y (List.mem_of_mem_drop hy)) (by omega) (by omega) z h
theorem cutN_in (zs : List Int) (q : Nat) (hz : ∀ z ∈ zs, 0 ≤ z ∧ z < 256) : ∀ b ∈ cutN zs q, ∀ z ∈ b, 0 ≤ z ∧ z < 256 := by
  intro b hb z h
  unfold cutN at hb
  obtain ⟨i, _, rfl⟩ := List.mem_map.1 hb
  exact hz z (List.mem_of_mem_drop (List.mem_of_mem_take h))
theorem cutN_length (zs : List Int) (q : Nat) : (cutN zs q).length = q := by simp [cutN]
theorem cutN_append (x y : List Int) (m k : Nat) (hx : x.length = 64 * m) : cutN (x ++ y) (m + k) = cutN x m ++ cutN y k := by
  unfold cutN
  rw [List.range_add, List.map_append, List.map_map]
  congr 1
  · apply List.map_congr_left
    intro i hi
    have := List.mem_range.1 hi
    rw [List.drop_append_of_le_length (by omega), List.take_append_of_le_length (by rw [List.length_drop]; omega)]
  · apply List.map_congr_left
    intro j _
    simp only [Function.comp]
    rw [List.drop_append, List.drop_eq_nil_of_le (by omega), List.nil_append, show 64 * (m + j) - x.length = 64 * j by omega]
theorem cutN_take (zs : List Int) (q : Nat) : cutN (zs.take (64 * q)) q = cutN zs q := by
  unfold cutN
  apply List.map_congr_left
  intro i hi
  have := List.mem_range.1 hi
  rw [List.drop_take, List.take_take, show min 64 (64 * q - 64 * i) = 64 by omega]
/-- The hash of a message. -/
def shaL (b : List Int) : List Int := hashL (takesL startL (cutN (padL b) ((padL b).length / 64)))
theorem shaL_len (b : List Int) : (shaL b).length = 32 := hashL_len _
theorem shaL_in (b : List Int) : ∀ z ∈ shaL b, 0 ≤ z ∧ z < 256 := hashL_in _ (takesL_in _ _ startL_in)
/-- What a writer that has taken zs has: its state and its rest. -/
def wrS (zs : List Int) : List Int := takesL startL (cutN zs (zs.length / 64))
def wrR (zs : List Int) : List Int := zs.drop (64 * (zs.length / 64))
theorem wrR_len (zs : List Int) : (wrR zs).length = zs.length % 64 := by unfold wrR; rw [List.length_drop]; omega
theorem wrS_len (zs : List Int) : (wrS zs).length = 8 := takesL_len _ _ rfl
theorem wrS_in (zs : List Int) : WIn (wrS zs) := takesL_in _ _ startL_in
theorem wrR_in (zs : List Int) (hz : ∀ z ∈ zs, 0 ≤ z ∧ z < 256) : ∀ z ∈ wrR zs, 0 ≤ z ∧ z < 256 := fun z h => hz z (List.mem_of_mem_drop h)
/-- What a state and a rest make of more bytes. -/
def nextS (s r b : List Int) : List Int := takesL s (cutN (r ++ b) ((r ++ b).length / 64))
def nextR (r b : List Int) : List Int := (r ++ b).drop (64 * ((r ++ b).length / 64))
/-- What they hash to behind n bytes. -/
def finL (s r : List Int) (n : Int) : List Int := hashL (takesL s (cutN (tailL r n) ((tailL r n).length / 64)))
theorem wr_split (zs b : List Int) : zs ++ b = zs.take (64 * (zs.length / 64)) ++ (wrR zs ++ b) := by
  unfold wrR
  rw [← List.append_assoc, List.take_append_drop]
theorem wr_parts (zs b : List Int) : (zs ++ b).length / 64 = zs.length / 64 + (wrR zs ++ b).length / 64 := by
  rw [List.length_append, List.length_append, wrR_len]; omega
theorem wrS_next (zs b : List Int) : wrS (zs ++ b) = nextS (wrS zs) (wrR zs) b := by
  unfold wrS nextS
  rw [wr_parts, ← takesL_append, ← cutN_take zs, ← cutN_append _ _ _ _ (by rw [List.length_take]; omega), ← wr_split]
theorem wrR_next (zs b : List Int) : wrR (zs ++ b) = nextR (wrR zs) b := by
  have h := wr_parts zs b
  have e := wr_split zs b
  obtain ⟨m, hm⟩ : ∃ m, wrR zs ++ b = m := ⟨_, rfl⟩
  rw [show wrR (zs ++ b) = (zs ++ b).drop (64 * ((zs ++ b).length / 64)) from rfl, show nextR (wrR zs) b = (wrR zs ++ b).drop (64 * ((wrR zs ++ b).length / 64)) from rfl, h, hm]
  rw [hm] at e
  rw [e, List.drop_append, List.drop_eq_nil_of_le (by rw [List.length_take]; omega), List.nil_append, List.length_take]
  congr 1
  omega
theorem sha_fin (zs : List Int) : finL (wrS zs) (wrR zs) zs.length = shaL zs := by
  have hp : padL zs = zs.take (64 * (zs.length / 64)) ++ tailL (wrR zs) zs.length := by
    unfold padL wrR
    rw [show zs.length - zs.length % 64 = 64 * (zs.length / 64) by omega]
  have hl : (padL zs).length / 64 = zs.length / 64 + (tailL (wrR zs) zs.length).length / 64 := by
    rw [hp, List.length_append, List.length_take]; omega
  unfold finL shaL
  rw [hl, hp, cutN_append _ _ _ _ (by rw [List.length_take]; omega), takesL_append, cutN_take]
  rfl
theorem sha_nil : wrS [] = startL ∧ wrR [] = [] := ⟨rfl, rfl⟩
end Go.Proofs.YtdnjnbeoioicfaaDoor
