import Derived.Test.YtdcdoeolaongkaaGreatDoorMD
namespace Go.Proofs.YtdcdoeolaongkaaGreatDoor.Mp
open Go.MapKept Go.ChangeMaps
open Go.ChangeShapes Go.WideShapes Go.ChangeAt Go.RowKit
open Go.Proofs.YtdcdoeolaongkaaGreatDoor.Ok
set_option linter.unusedVariables false
set_option linter.unusedSimpArgs false
set_option maxRecDepth 100000
def absK : List Int → Int
  | [k] => opk 17 k 0
  | _ => -1
def nullifK : List Int → Int
  | [a, b] => if opk 7 a b = -1 then -1 else a
  | _ => -1
def twoK : List Int → Int
  | [a, b] => if fitB a b = false ∧ b ≠ 0 then -1 else if a ≤ b then b else a
  | _ => -1
theorem absK_no {ks : List Int} (h : ks.length ≠ 1) : absK ks = -1 := by
  match ks, h with
  | [], _ => rfl
  | [k], h => simp at h
  | _ :: _ :: _, _ => rfl
theorem nullifK_no {ks : List Int} (h : ks.length ≠ 2) : nullifK ks = -1 := by
  match ks, h with
  | [], _ => rfl
  | [k], h => rfl
  | [a, b], h => simp at h
  | _ :: _ :: _ :: _, _ => rfl
theorem twoK_no {ks : List Int} (h : ks.length ≠ 2) : twoK ks = -1 := by
  match ks, h with
  | [], _ => rfl
  | [k], h => rfl
  | [a, b], h => simp at h
  | _ :: _ :: _ :: _, _ => rfl
theorem len_two {ks : List Int} (h : ks.length = 2) : ∃ x y, ks = [x, y] := by
  match ks, h with
  | [x, y], _ => exact ⟨x, y, rfl⟩
theorem below_drewN (w : World) (n : Nat) : Below w.heap.size w (w.drewN n) := ⟨rfl, rfl, rfl, Nat.le_refl _, fun _ _ => rfl⟩
theorem undrew {W w' : World} (hb : Below W.drew.heap.size W.drew w') : Below W.heap.size W w' := (Below.refl W.heap.size W).drew.trans hb
set_option maxHeartbeats 1000000 in
theorem abs_any (ks : List Int) (a : Option Addr) (cap : Nat) (w : World) (hn : ks.length ≤ 1048576) (hk : RIO w (.slice a ks.length cap) ks) :
    Calls Tryz.prog 82 #[.slice a ks.length cap] w fun e w' => e = .returned (.int .i64 (absK ks)) ∧ Below w.heap.size w w' := by
  obtain ⟨a', cap', hsl, hcells⟩ := hk
  simp only [Value.slice.injEq] at hsl
  obtain ⟨rfl, _, rfl⟩ := hsl
  by_cases h1 : ks.length = 1
  · obtain ⟨k, rfl⟩ := List.length_eq_one_iff.1 h1
    obtain ⟨g, o, rfl, hg, hgc⟩ := hcells (by simp)
    have d0 : w.cell? ⟨g, o, none⟩ = some (.int .i64 k) := by simpa using hgc 0 (by simp)
    clear hgc hcells
    simp only [List.length_singleton, absK]
    go_enter Tryz.func82, Tryz.ntmps82
    go_wp2_with (go_at_call 56; refine (opKind_impl _ _ _ _).mono ?_; rintro e w' ⟨rfl, hb⟩)
    go_ret
    exact ⟨rfl, hb⟩
  · have hne : ((ks.length : Int) != 1) = true := by simp; omega
    rw [absK_no h1]
    go_enter Tryz.func82, Tryz.ntmps82
    go_wp2
    go_ret
    exact ⟨rfl, Below.refl _ _⟩
set_option maxHeartbeats 2000000 in
theorem nullif_any (ks : List Int) (a : Option Addr) (cap : Nat) (w : World) (hn : ks.length ≤ 1048576) (hk : RIO w (.slice a ks.length cap) ks) :
    Calls Tryz.prog 89 #[.slice a ks.length cap] w fun e w' => e = .returned (.int .i64 (nullifK ks)) ∧ Below w.heap.size w w' := by
  obtain ⟨a', cap', hsl, hcells⟩ := hk
  simp only [Value.slice.injEq] at hsl
  obtain ⟨rfl, _, rfl⟩ := hsl
  by_cases h1 : ks.length = 2
  · obtain ⟨x, y, rfl⟩ := len_two h1
    obtain ⟨g, o, rfl, hg, hgc⟩ := hcells (by simp)
    have d0 : w.cell? ⟨g, o, none⟩ = some (.int .i64 x) := by simpa using hgc 0 (by simp)
    have d1 : w.cell? ⟨g, o + 1, none⟩ = some (.int .i64 y) := by simpa using hgc 1 (by simp)
    clear hgc hcells h1
    by_cases hq : opk 7 x y = -1
    · have hv : nullifK [x, y] = -1 := by simp [nullifK, hq]
      rw [hv]
      have hcon := fun w => opKind_impl 7 x y w
      rw [hq] at hcon
      clear hv hq
      simp only [List.length_cons, List.length_nil, Nat.zero_add, Nat.reduceAdd]
      go_enter Tryz.func89, Tryz.ntmps89
      go_wp2
      go_region_with (go_at_call 56; refine (hcon _).mono ?_; rintro e w1 ⟨rfl, hb'⟩; replace hb' := undrew hb')
      all_goals
        go_wp2
        go_ret
        exact ⟨rfl, by first | exact hb' | exact hb'.drew⟩
    · have hv : nullifK [x, y] = x := by simp [nullifK, hq]
      rw [hv]
      have hcon := fun w => opKind_impl 7 x y w
      have hq' : (opk 7 x y == -1) = false := by simpa using hq
      generalize opk 7 x y = q at hcon hq'
      clear hv hq
      simp only [List.length_cons, List.length_nil, Nat.zero_add, Nat.reduceAdd]
      go_enter Tryz.func89, Tryz.ntmps89
      go_wp2
      go_region_with (go_at_call 56; refine (hcon _).mono ?_; rintro e w1 ⟨rfl, hb'⟩; replace hb' := undrew hb'; have e0 := (hb'.cell (p := ⟨g, o, none⟩) hg).trans d0)
      all_goals
        go_wp2
        go_ret
        exact ⟨rfl, by first | exact hb' | exact hb'.drew⟩
  · have hne : ((ks.length : Int) != 2) = true := by simp; omega
    rw [nullifK_no h1]
    go_enter Tryz.func89, Tryz.ntmps89
    go_wp2
    go_quiet (fail)
    go_wp2
    go_ret
    exact ⟨rfl, below_drewN _ _⟩
end Go.Proofs.YtdcdoeolaongkaaGreatDoor.Mp
