import Derived.Test.YtdcdoeolaongkaaGreatDoorR7
import Derived.Test.YtdcdoeolaongkaaGreatDoorK4
import Derived.Test.YtdcdoeolaongkaaGreatDoorG7
import Derived.Test.YtdcdoeolaongkaaGreatDoorW4
namespace Go.Proofs.YtdcdoeolaongkaaGreatDoor.Rd
open Go.ChangeShapes Go.WideShapes Go.ChangeAt Go.RowKit Go.Shelf
set_option linter.unusedVariables false
set_option linter.unusedSimpArgs false
set_option maxRecDepth 100000
def ck (a b : Int) : Bool := Ok.isK a && Ok.isK b && (a == b || a == 0 || (a == 1 && (b == 2 || b == 3)) || (a == 2 && (b == 1 || b == 3)) || (a == 3 && b != 0) || (decide (4 ≤ a) && b == 3))
theorem ck_spec (a b : Int) (w : World) : Calls Tryz.prog 63 #[.int .i64 a, .int .i64 b] w fun e w' => e = .returned (.bool (ck a b)) ∧ w' = w := by
  go_enter Tryz.func63, Tryz.ntmps63
  go_wp2
  all_goals
    go_ret
    refine ⟨ret_bool ?_, rfl⟩
    go_light
    simp only [ck, Ok.isK]
    rw [Bool.eq_iff_iff]
    simp_all
    try omega
theorem ck_impl (a b : Int) (w : World) : Calls Tryz.prog 44 #[.int .i64 a, .int .i64 b] w fun e w' => e = .returned (.bool (ck a b)) ∧ w' = w := by
  go_enter Tryz.func44, Tryz.ntmps44
  go_wp2
  all_goals
    go_ret
    refine ⟨ret_bool ?_, rfl⟩
    go_light
    simp only [ck, Ok.isK]
    rw [Bool.eq_iff_iff]
    simp_all
    try omega
theorem textValue_any (b : ByteArray) (w : World) : Calls Tryz.prog 46 #[.string b] w fun e w' => e = .returned (.agg #[.int .i64 3, .int .i64 0, .string b]) ∧ Below w.heap.size w w' := by
  go_enter Tryz.func46, Tryz.ntmps46
  go_wp2
  refine bodyPost_ret (v := .agg #[.int .i64 3, .int .i64 0, .string b]) (by simp [results, Tryz.results46, go_sem]) rfl ⟨rfl, ?_⟩
  go_light
  repeat (first | with_reducible exact Below.refl _ _ | refine Below.setCell ?_ (by simp) _ | refine Below.alloc ?_ (by simp; try omega) _)
def tV (k n : Int) (s : ByteArray) (c : Int) : Value := .tuple #[.agg #[.int .i64 k, .int .i64 n, .string s], .int .i64 c]
/-- What Cast answers. -/
def CastIs (k n : Int) (s : ByteArray) (kind : Int) (V : Value) : Prop :=
  if vok k n s = false ∨ Ok.isK kind = false then V = cV 0 0 1
  else if ck k kind = false then V = cV 0 0 10
  else if k = 0 ∨ k = kind then V = tV k n s 0
  else if k = 3 then V = ctK kind (rdK kind s)
  else if kind = 3 then ∃ b, isPlain k n s b ∧ V = tV 3 0 b 0
  else if kind = 2 then V = (if (toU n).2 = 0 then cV 2 (toU n).1 0 else cV 0 0 13)
  else V = cV 1 (rndI n) 0
theorem CastIs.one {k n kind : Int} {s : ByteArray} {U V : Value} (h1 : CastIs k n s kind U) (h2 : CastIs k n s kind V) : U = V := by
  unfold CastIs at h1 h2
  split at h1
  · rw [if_pos ‹_›] at h2; rw [h1, h2]
  rw [if_neg ‹_›] at h2
  split at h1
  · rw [if_pos ‹_›] at h2; rw [h1, h2]
  rw [if_neg ‹_›] at h2
  split at h1
  · rw [if_pos ‹_›] at h2; rw [h1, h2]
  rw [if_neg ‹_›] at h2
  split at h1
  · rw [if_pos ‹_›] at h2; rw [h1, h2]
  rw [if_neg ‹_›] at h2
  split at h1
  · rw [if_pos ‹_›] at h2
    obtain ⟨b, hb, rfl⟩ := h1
    obtain ⟨c, hc, rfl⟩ := h2
    rw [isPlain_one hb hc]
  rw [if_neg ‹_›] at h2
  split at h1
  · rw [if_pos ‹_›] at h2; rw [h1, h2]
  rw [if_neg ‹_›] at h2; rw [h1, h2]
def CastEnd (k n : Int) (s : ByteArray) (kind : Int) (w : World) (e : Ending) (w' : World) : Prop := ∃ V, CastIs k n s kind V ∧ e = .returned V ∧ Below w.heap.size w w'
theorem CastEnd.mk {k n kind : Int} {s : ByteArray} {w w' : World} {V : Value} (h : CastIs k n s kind V) (hb : Below w.heap.size w w') : CastEnd k n s kind w (.returned V) w' := ⟨V, h, rfl, hb⟩
theorem cast_bad1 {k n kind : Int} {s : ByteArray} (h : vok k n s = false) : CastIs k n s kind (cV 0 0 1) := by unfold CastIs; rw [if_pos (.inl h)]
theorem cast_bad2 {k n kind : Int} {s : ByteArray} (h : Ok.isK kind = false) : CastIs k n s kind (cV 0 0 1) := by unfold CastIs; rw [if_pos (.inr h)]
theorem cast_type {k n kind : Int} {s : ByteArray} (h1 : vok k n s = true) (h2 : Ok.isK kind = true) (h3 : ck k kind = false) : CastIs k n s kind (cV 0 0 10) := by
  unfold CastIs; rw [if_neg (by rw [h1, h2]; simp), if_pos h3]
theorem cast_same {k n kind : Int} {s : ByteArray} (h1 : vok k n s = true) (h2 : Ok.isK kind = true) (h3 : ck k kind = true) (h4 : k = 0 ∨ k = kind) : CastIs k n s kind (tV k n s 0) := by
  unfold CastIs; rw [if_neg (by rw [h1, h2]; simp), if_neg (by rw [h3]; simp), if_pos h4]
theorem cast_text {n kind : Int} {s : ByteArray} (h1 : vok 3 n s = true) (h2 : Ok.isK kind = true) (h3 : ck 3 kind = true) (h4 : ¬ (3 : Int) = kind) : CastIs 3 n s kind (ctK kind (rdK kind s)) := by
  unfold CastIs; rw [if_neg (by rw [h1, h2]; simp), if_neg (by rw [h3]; simp), if_neg (by omega), if_pos rfl]
theorem cast_plain {k n : Int} {s b : ByteArray} (h1 : vok k n s = true) (h2 : Ok.isK 3 = true) (h3 : ck k 3 = true) (h4 : ¬ k = 0) (h5 : ¬ k = 3) (hb : isPlain k n s b) : CastIs k n s 3 (tV 3 0 b 0) := by
  unfold CastIs; rw [if_neg (by rw [h1, h2]; simp), if_neg (by rw [h3]; simp), if_neg (by omega), if_neg h5, if_pos rfl]; exact ⟨b, hb, rfl⟩
theorem cast_up {n : Int} {s : ByteArray} (h1 : vok 1 n s = true) (h2 : Ok.isK 2 = true) (h3 : ck 1 2 = true) : CastIs 1 n s 2 (if (toU n).2 = 0 then cV 2 (toU n).1 0 else cV 0 0 13) := by
  unfold CastIs; rw [if_neg (by rw [h1, h2]; simp), if_neg (by rw [h3]; simp), if_neg (by omega), if_neg (by omega), if_neg (by omega), if_pos rfl]
theorem cast_down {n : Int} {s : ByteArray} (h1 : vok 2 n s = true) (h2 : Ok.isK 1 = true) (h3 : ck 2 1 = true) : CastIs 2 n s 1 (cV 1 (rndI n) 0) := by
  unfold CastIs; rw [if_neg (by rw [h1, h2]; simp), if_neg (by rw [h3]; simp), if_neg (by omega), if_neg (by omega), if_neg (by omega), if_neg (by omega)]
theorem ck_cases {k kind : Int} (h : ck k kind = true) (h4 : ¬ (k = 0 ∨ k = kind)) : (k = 3 ∧ (kind = 1 ∨ kind = 2 ∨ kind = 4 ∨ kind = 5)) ∨ (kind = 3 ∧ (k = 1 ∨ k = 2 ∨ k = 4 ∨ k = 5)) ∨ (k = 1 ∧ kind = 2) ∨ (k = 2 ∧ kind = 1) := by
  simp only [ck, Ok.isK, Bool.and_eq_true, Bool.or_eq_true, beq_iff_eq, bne_iff_ne, decide_eq_true_eq] at h
  omega
theorem toU_two (n : Int) : (toU n).2 = 0 ∨ ((toU n).2 = 13 ∧ (toU n).1 = 0) := by unfold toU; split <;> simp
theorem ctK_shape (kind : Int) (r : Int × Bool) : ∃ a b c, ctK kind r = cV a b c := by
  unfold ctK; split
  · exact ⟨_, _, _, rfl⟩
  · exact ⟨_, _, _, rfl⟩
end Go.Proofs.YtdcdoeolaongkaaGreatDoor.Rd
