import Derived.Test.YtdcdoeolaongkaaGreatDoorMG
import Derived.Test.YtdcdoeolaongkaaGreatDoorC0
import Derived.Test.YtdcdoeolaongkaaGreatDoorW4
import Derived.Deep.RegionHeld3
import Derived.Test.YtdcdoeolaongkaaGreatDoorVX
import Derived.Test.YtdcdoeolaongkaaGreatDoorR1
namespace Go.Proofs.YtdcdoeolaongkaaGreatDoor.Mp
open Go.MapKept Go.ChangeMaps
open Go.ChangeShapes Go.WideShapes Go.ChangeAt Go.RowKit
open Go.Proofs.YtdcdoeolaongkaaGreatDoor.Ok
set_option linter.unusedVariables false
set_option linter.unusedSimpArgs false
set_option maxRecDepth 100000
theorem opk_neg {op a b : Int} (h : ¬ 0 ≤ opk op a b) : opk op a b = -1 := by
  unfold opk at h ⊢
  split
  · rfl
  rename_i c1
  rw [if_neg c1] at h
  split
  · rename_i c2
    rw [if_pos c2] at h
    unfold unK at h ⊢
    (repeat' split) <;> grind
  rename_i c2
  rw [if_neg c2] at h
  split
  · rfl
  rename_i c3
  rw [if_neg c3] at h
  split
  · rename_i c4
    rw [if_pos c4] at h
    unfold nullsK at h ⊢
    grind
  rename_i c4
  rw [if_neg c4] at h
  unfold firstK at h ⊢
  grind
theorem ckK_long {fn : Int} {ks : List Int} (h1 : ks.length ≠ 1) (h2 : ks.length ≠ 2) (h3 : ks.length ≠ 3) : ckK fn ks = -1 := by
  unfold ckK
  split
  · rfl
  split
  · unfold gvK
    rw [absK_no h1, nullifK_no h2, twoK_no h2]
    have e : allFit ks (wantK fn) = false := allFit_len (by unfold wantK; (repeat' split) <;> simp <;> omega)
    simp [takeK, e]
  · rfl
theorem all1 {x : Int} (h : allK [x] = true) : isK x = true := by simpa [allK] using h
theorem all2 {x y : Int} (h : allK [x, y] = true) : isK x = true ∧ isK y = true := by simpa [allK] using h
theorem ck_abs {x : Int} (h : allK [x] = true) : ckK 1 [x] = if (x == 1) = true ∨ fitB x 2 = true then x else -1 := by
  have h2 := isK_yes (all1 h)
  rw [ckK_yes (by omega) h]
  simp only [gvK, absK, opk, unK, fitB]
  by_cases e1 : x = 1 <;> by_cases e2 : x = 2 <;> by_cases e3 : x = 0 <;> simp_all <;> omega
theorem ck_one {fn x : Int} (h : allK [x] = true) (h1 : 1 ≤ fn ∧ fn ≤ 13) (h2 : ¬ fn = 1 ∧ ¬ fn = 6 ∧ ¬ (fn = 12 ∨ fn = 13)) {r k : Int} (hr : resK fn = r) (hw : wantK fn = [k]) : ckK fn [x] = if fitB x k = true then r else -1 := by
  rw [ckK_yes h1 h]
  unfold gvK
  rw [if_neg h2.1, if_neg h2.2.1, if_neg h2.2.2, hr, hw]
  simp [takeK, allFit]
theorem ck_three {x y z : Int} (h : allK [x, y, z] = true) : ckK 5 [x, y, z] = if fitB x 3 = true ∧ fitB y 1 = true ∧ fitB z 1 = true then 3 else -1 := by
  rw [ckK_yes (by omega) h]
  simp [gvK, takeK, resK, wantK, allFit]
theorem ck_nullif {x y : Int} (h : allK [x, y] = true) : ckK 6 [x, y] = if 0 ≤ opk 7 x y then x else -1 := by
  rw [ckK_yes (by omega) h]
  simp only [gvK, nullifK]
  by_cases c : 0 ≤ opk 7 x y
  · have : ¬ opk 7 x y = -1 := by omega
    simp [c, this]
  · simp [c, opk_neg c]
theorem ck_two {fn x y : Int} (hf : fn = 12 ∨ fn = 13) (h : allK [x, y] = true) : ckK fn [x, y] = if fitB y x = true then x else if (x == 0) = true then y else -1 := by
  have ⟨hx, hy⟩ := all2 h
  have hx := isK_yes hx
  have hy := isK_yes hy
  rw [ckK_yes (by omega) h]
  unfold gvK
  rw [if_neg (by omega), if_neg (by omega), if_pos hf]
  simp only [twoK, fitB]
  by_cases c1 : x = y <;> by_cases c2 : y = 0 <;> by_cases c3 : x = 0 <;> simp_all <;> omega
theorem ck_len {fn : Int} {ks : List Int} (h1 : ¬ (fn = 6 ∨ fn = 12 ∨ fn = 13) → ks.length ≠ (if fn = 5 then 3 else 1)) (h2 : (fn = 6 ∨ fn = 12 ∨ fn = 13) → ks.length ≠ 2) : ckK fn ks = -1 := by
  unfold ckK
  split
  · rfl
  split
  · rename_i c _
    unfold gvK
    by_cases e1 : fn = 1
    · rw [if_pos e1]; exact absK_no (by have := h1 (by omega); rw [if_neg (by omega)] at this; exact this)
    rw [if_neg e1]
    by_cases e2 : fn = 6
    · rw [if_pos e2]; exact nullifK_no (h2 (by omega))
    rw [if_neg e2]
    by_cases e3 : fn = 12 ∨ fn = 13
    · rw [if_pos e3]; exact twoK_no (h2 (by omega))
    rw [if_neg e3]
    have hh := h1 (by omega)
    have e : allFit ks (wantK fn) = false := allFit_len (by
      by_cases e5 : fn = 5
      · rw [if_pos e5] at hh; simp [wantK, e5]; exact hh
      · rw [if_neg e5] at hh; unfold wantK; rw [if_neg e5]; (repeat' split) <;> simpa using hh)
    simp [takeK, e]
  · rfl
end Go.Proofs.YtdcdoeolaongkaaGreatDoor.Mp
namespace Go.Proofs.YtdcdoeolaongkaaGreatDoor.Mp
open Go.MapKept Go.ChangeMaps
open Go.ChangeShapes Go.WideShapes Go.ChangeAt Go.RowKit
open Go.Proofs.YtdcdoeolaongkaaGreatDoor.Ok
set_option linter.unusedVariables false
set_option linter.unusedSimpArgs false
set_option maxRecDepth 100000
set_option maxHeartbeats 20000000 in
theorem sck_one (fn : Int) (x : Int) (a : Option Addr) (cap : Nat) (w : World) (hk : RIO w (.slice a [x].length cap) [x]) (h13 : fn = 1 ∨ fn = 2 ∨ fn = 3 ∨ fn = 4 ∨ fn = 5 ∨ fn = 6 ∨ fn = 7 ∨ fn = 8 ∨ fn = 9 ∨ fn = 10 ∨ fn = 11 ∨ fn = 12 ∨ fn = 13) :
    Calls Tryz.prog 9 #[.int .i64 fn, .slice a [x].length cap] w fun e w' => e = .returned (.int .i64 (ckK fn [x])) ∧ Below w.heap.size w w' := by
  obtain ⟨a', cap', hsl, hcells⟩ := hk
  simp only [Value.slice.injEq] at hsl
  obtain ⟨rfl, _, rfl⟩ := hsl
  simp only [List.length_cons, List.length_nil, Nat.zero_add, Nat.reduceAdd]
  go_enter Tryz.func9, Tryz.ntmps9
  go_wp2
  go_loop [6, 13] (fun _ i => ∃ k : Nat, k ≤ 1 ∧ i = .int .i64 k ∧ Hid (allK ([x].take k) = true)) (fun _ i => 1 - (intOf i).toNat)
  case atStart => exact ⟨0, Nat.zero_le _, rfl, (rfl : allK [] = true)⟩
  case round =>
    obtain ⟨k, hkl, rfl, HA⟩ := hrel
    by_cases hlt : k < 1
    · have hlti : (k : Int) < 1 := by omega
      have hlt' : k < [x].length := hlt
      obtain ⟨gb, o, rfl, hgb, hcs⟩ := hcells (by simp)
      have d1 := hcs k hlt'
      have HN : Hid (isK [x][k] = false → ckK fn [x] = -1) := fun h => ckK_no (allK_no hlt' h)
      have HY : Hid (isK [x][k] = true → allK ([x].take (k + 1)) = true) := fun h => allK_step hlt' HA.out h
      clear hcs hcells HA
      generalize [x][k] = xk at d1 HN HY
      have hcon := fun w => isKind_spec xk w
      cases hf : isK xk
      · have HN' : Hid (ckK fn [x] = -1) := HN.out hf
        clear HN HY
        rw [hf] at hcon
        go_wp2_with (go_at_call 36; refine (hcon _).mono ?_; rintro e w' ⟨rfl, rfl⟩)
        go_ret
        exact ⟨ret_int HN'.out.symm, Below.refl _ _⟩
      · have HY' : Hid (allK ([x].take (k + 1)) = true) := HY.out hf
        clear HN HY
        rw [hf] at hcon
        go_wp2_with (go_at_call 36; refine (hcon _).mono ?_; rintro e w' ⟨rfl, rfl⟩)
        go_round
        case rel => exact ⟨k + 1, by omega, by go_num, HY'⟩
        case measure => simp [intOf]; omega
    · have hkn : k = 1 := by omega
      subst hkn
      have hlti : ¬ (1 : Int) < 1 := by omega
      replace HA : Hid (allK [x] = true) := (HA.out : allK [x] = true)
      rcases h13 with rfl | rfl | rfl | rfl | rfl | rfl | rfl | rfl | rfl | rfl | rfl | rfl | rfl
      · obtain ⟨gb, o, rfl, hgb, hcs⟩ := hcells (by simp)
        have d0 : w.cell? ⟨gb, o, none⟩ = some (.int .i64 x) := by simpa using hcs 0 (by simp)
        clear hcs hcells
        have HR := ck_abs HA.out
        have HRR : Hid (ckK 1 [x] = if (x == 1) = true ∨ fitB x 2 = true then x else -1) := HR
        clear HR HA
        have hcon := fun w => fits_spec x 2 w
        cases e1 : (x == 1)
        · cases e2 : fitB x 2
          all_goals
            rw [e2] at hcon
            go_wp2_with (go_at_call 37; refine (hcon _).mono ?_; rintro e w' ⟨rfl, rfl⟩)
            go_ret
            exact ⟨ret_int (by rw [HRR.out, e1, e2]; simp), Below.refl _ _⟩
        · go_wp2_with (go_at_call 37; refine (hcon _).mono ?_; rintro e w' ⟨rfl, rfl⟩)
          go_ret
          exact ⟨ret_int (by rw [HRR.out, e1]; simp), Below.refl _ _⟩
      · obtain ⟨gb, o, rfl, hgb, hcs⟩ := hcells (by simp)
        have d0 : w.cell? ⟨gb, o, none⟩ = some (.int .i64 x) := by simpa using hcs 0 (by simp)
        clear hcs hcells
        have HRR : Hid (ckK 2 [x] = if fitB x 3 = true then 1 else -1) := ck_one HA.out (by omega) (by omega) (by decide) (by decide)
        clear HA
        have hcon := fun w => fits_spec x 3 w
        cases e2 : fitB x 3
        all_goals
          rw [e2] at hcon
          go_wp2_with (go_at_call 37; refine (hcon _).mono ?_; rintro e w' ⟨rfl, rfl⟩)
          go_ret
          exact ⟨ret_int (by rw [HRR.out, e2]; simp), Below.refl _ _⟩
      · obtain ⟨gb, o, rfl, hgb, hcs⟩ := hcells (by simp)
        have d0 : w.cell? ⟨gb, o, none⟩ = some (.int .i64 x) := by simpa using hcs 0 (by simp)
        clear hcs hcells
        have HRR : Hid (ckK 3 [x] = if fitB x 3 = true then 3 else -1) := ck_one HA.out (by omega) (by omega) (by decide) (by decide)
        clear HA
        have hcon := fun w => fits_spec x 3 w
        cases e2 : fitB x 3
        all_goals
          rw [e2] at hcon
          go_wp2_with (go_at_call 37; refine (hcon _).mono ?_; rintro e w' ⟨rfl, rfl⟩)
          go_ret
          exact ⟨ret_int (by rw [HRR.out, e2]; simp), Below.refl _ _⟩
      · obtain ⟨gb, o, rfl, hgb, hcs⟩ := hcells (by simp)
        have d0 : w.cell? ⟨gb, o, none⟩ = some (.int .i64 x) := by simpa using hcs 0 (by simp)
        clear hcs hcells
        have HRR : Hid (ckK 4 [x] = if fitB x 3 = true then 3 else -1) := ck_one HA.out (by omega) (by omega) (by decide) (by decide)
        clear HA
        have hcon := fun w => fits_spec x 3 w
        cases e2 : fitB x 3
        all_goals
          rw [e2] at hcon
          go_wp2_with (go_at_call 37; refine (hcon _).mono ?_; rintro e w' ⟨rfl, rfl⟩)
          go_ret
          exact ⟨ret_int (by rw [HRR.out, e2]; simp), Below.refl _ _⟩
      · have HR : Hid (ckK 5 [x] = -1) := ck_len (by intro h; first | omega | simp) (by intro h; first | omega | simp)
        clear HA hcells
        go_wp2
        go_ret
        exact ⟨ret_int HR.out.symm, Below.refl _ _⟩
      · have HR : Hid (ckK 6 [x] = -1) := ck_len (by intro h; first | omega | simp) (by intro h; first | omega | simp)
        clear HA hcells
        go_wp2
        go_quiet (fail)
        go_wp2
        go_ret
        exact ⟨ret_int HR.out.symm, below_drewN _ _⟩
      · obtain ⟨gb, o, rfl, hgb, hcs⟩ := hcells (by simp)
        have d0 : w.cell? ⟨gb, o, none⟩ = some (.int .i64 x) := by simpa using hcs 0 (by simp)
        clear hcs hcells
        have HRR : Hid (ckK 7 [x] = if fitB x 5 = true then 1 else -1) := ck_one HA.out (by omega) (by omega) (by decide) (by decide)
        clear HA
        have hcon := fun w => fits_spec x 5 w
        cases e2 : fitB x 5
        all_goals
          rw [e2] at hcon
          go_wp2_with (go_at_call 37; refine (hcon _).mono ?_; rintro e w' ⟨rfl, rfl⟩)
          go_ret
          exact ⟨ret_int (by rw [HRR.out, e2]; simp), Below.refl _ _⟩
      · obtain ⟨gb, o, rfl, hgb, hcs⟩ := hcells (by simp)
        have d0 : w.cell? ⟨gb, o, none⟩ = some (.int .i64 x) := by simpa using hcs 0 (by simp)
        clear hcs hcells
        have HRR : Hid (ckK 8 [x] = if fitB x 5 = true then 1 else -1) := ck_one HA.out (by omega) (by omega) (by decide) (by decide)
        clear HA
        have hcon := fun w => fits_spec x 5 w
        cases e2 : fitB x 5
        all_goals
          rw [e2] at hcon
          go_wp2_with (go_at_call 37; refine (hcon _).mono ?_; rintro e w' ⟨rfl, rfl⟩)
          go_ret
          exact ⟨ret_int (by rw [HRR.out, e2]; simp), Below.refl _ _⟩
      · obtain ⟨gb, o, rfl, hgb, hcs⟩ := hcells (by simp)
        have d0 : w.cell? ⟨gb, o, none⟩ = some (.int .i64 x) := by simpa using hcs 0 (by simp)
        clear hcs hcells
        have HRR : Hid (ckK 9 [x] = if fitB x 5 = true then 1 else -1) := ck_one HA.out (by omega) (by omega) (by decide) (by decide)
        clear HA
        have hcon := fun w => fits_spec x 5 w
        cases e2 : fitB x 5
        all_goals
          rw [e2] at hcon
          go_wp2_with (go_at_call 37; refine (hcon _).mono ?_; rintro e w' ⟨rfl, rfl⟩)
          go_ret
          exact ⟨ret_int (by rw [HRR.out, e2]; simp), Below.refl _ _⟩
      · obtain ⟨gb, o, rfl, hgb, hcs⟩ := hcells (by simp)
        have d0 : w.cell? ⟨gb, o, none⟩ = some (.int .i64 x) := by simpa using hcs 0 (by simp)
        clear hcs hcells
        have HRR : Hid (ckK 10 [x] = if fitB x 2 = true then 2 else -1) := ck_one HA.out (by omega) (by omega) (by decide) (by decide)
        clear HA
        have hcon := fun w => fits_spec x 2 w
        cases e2 : fitB x 2
        all_goals
          rw [e2] at hcon
          go_wp2_with (go_at_call 37; refine (hcon _).mono ?_; rintro e w' ⟨rfl, rfl⟩)
          go_ret
          exact ⟨ret_int (by rw [HRR.out, e2]; simp), Below.refl _ _⟩
      · obtain ⟨gb, o, rfl, hgb, hcs⟩ := hcells (by simp)
        have d0 : w.cell? ⟨gb, o, none⟩ = some (.int .i64 x) := by simpa using hcs 0 (by simp)
        clear hcs hcells
        have HRR : Hid (ckK 11 [x] = if fitB x 3 = true then 3 else -1) := ck_one HA.out (by omega) (by omega) (by decide) (by decide)
        clear HA
        have hcon := fun w => fits_spec x 3 w
        cases e2 : fitB x 3
        all_goals
          rw [e2] at hcon
          go_wp2_with (go_at_call 37; refine (hcon _).mono ?_; rintro e w' ⟨rfl, rfl⟩)
          go_ret
          exact ⟨ret_int (by rw [HRR.out, e2]; simp), Below.refl _ _⟩
      · have HR : Hid (ckK 12 [x] = -1) := ck_len (by intro h; first | omega | simp) (by intro h; first | omega | simp)
        clear HA hcells
        go_wp2
        go_quiet (fail)
        go_wp2
        go_ret
        exact ⟨ret_int HR.out.symm, below_drewN _ _⟩
      · have HR : Hid (ckK 13 [x] = -1) := ck_len (by intro h; first | omega | simp) (by intro h; first | omega | simp)
        clear HA hcells
        go_wp2
        go_quiet (fail)
        go_wp2
        go_ret
        exact ⟨ret_int HR.out.symm, below_drewN _ _⟩
end Go.Proofs.YtdcdoeolaongkaaGreatDoor.Mp
namespace Go.Proofs.YtdcdoeolaongkaaGreatDoor.Mp
open Go.MapKept Go.ChangeMaps
open Go.ChangeShapes Go.WideShapes Go.ChangeAt Go.RowKit
open Go.Proofs.YtdcdoeolaongkaaGreatDoor.Ok
set_option linter.unusedVariables false
set_option linter.unusedSimpArgs false
set_option maxRecDepth 100000
set_option maxHeartbeats 20000000 in
theorem sck_two (fn : Int) (x y : Int) (a : Option Addr) (cap : Nat) (w : World) (hk : RIO w (.slice a [x, y].length cap) [x, y]) (h13 : fn = 1 ∨ fn = 2 ∨ fn = 3 ∨ fn = 4 ∨ fn = 5 ∨ fn = 6 ∨ fn = 7 ∨ fn = 8 ∨ fn = 9 ∨ fn = 10 ∨ fn = 11 ∨ fn = 12 ∨ fn = 13) :
    Calls Tryz.prog 9 #[.int .i64 fn, .slice a [x, y].length cap] w fun e w' => e = .returned (.int .i64 (ckK fn [x, y])) ∧ Below w.heap.size w w' := by
  obtain ⟨a', cap', hsl, hcells⟩ := hk
  simp only [Value.slice.injEq] at hsl
  obtain ⟨rfl, _, rfl⟩ := hsl
  simp only [List.length_cons, List.length_nil, Nat.zero_add, Nat.reduceAdd]
  go_enter Tryz.func9, Tryz.ntmps9
  go_wp2
  go_loop [6, 13] (fun _ i => ∃ k : Nat, k ≤ 2 ∧ i = .int .i64 k ∧ Hid (allK ([x, y].take k) = true)) (fun _ i => 2 - (intOf i).toNat)
  case atStart => exact ⟨0, Nat.zero_le _, rfl, (rfl : allK [] = true)⟩
  case round =>
    obtain ⟨k, hkl, rfl, HA⟩ := hrel
    by_cases hlt : k < 2
    · have hlti : (k : Int) < 2 := by omega
      have hlt' : k < [x, y].length := hlt
      obtain ⟨gb, o, rfl, hgb, hcs⟩ := hcells (by simp)
      have d1 := hcs k hlt'
      have HN : Hid (isK [x, y][k] = false → ckK fn [x, y] = -1) := fun h => ckK_no (allK_no hlt' h)
      have HY : Hid (isK [x, y][k] = true → allK ([x, y].take (k + 1)) = true) := fun h => allK_step hlt' HA.out h
      clear hcs hcells HA
      generalize [x, y][k] = xk at d1 HN HY
      have hcon := fun w => isKind_spec xk w
      cases hf : isK xk
      · have HN' : Hid (ckK fn [x, y] = -1) := HN.out hf
        clear HN HY
        rw [hf] at hcon
        go_wp2_with (go_at_call 36; refine (hcon _).mono ?_; rintro e w' ⟨rfl, rfl⟩)
        go_ret
        exact ⟨ret_int HN'.out.symm, Below.refl _ _⟩
      · have HY' : Hid (allK ([x, y].take (k + 1)) = true) := HY.out hf
        clear HN HY
        rw [hf] at hcon
        go_wp2_with (go_at_call 36; refine (hcon _).mono ?_; rintro e w' ⟨rfl, rfl⟩)
        go_round
        case rel => exact ⟨k + 1, by omega, by go_num, HY'⟩
        case measure => simp [intOf]; omega
    · have hkn : k = 2 := by omega
      subst hkn
      have hlti : ¬ (2 : Int) < 2 := by omega
      replace HA : Hid (allK [x, y] = true) := (HA.out : allK [x, y] = true)
      rcases h13 with rfl | rfl | rfl | rfl | rfl | rfl | rfl | rfl | rfl | rfl | rfl | rfl | rfl
      · have HR : Hid (ckK 1 [x, y] = -1) := ck_len (by intro h; first | omega | simp) (by intro h; first | omega | simp)
        clear HA hcells
        go_wp2
        go_ret
        exact ⟨ret_int HR.out.symm, Below.refl _ _⟩
      · have HR : Hid (ckK 2 [x, y] = -1) := ck_len (by intro h; first | omega | simp) (by intro h; first | omega | simp)
        clear HA hcells
        go_wp2
        go_ret
        exact ⟨ret_int HR.out.symm, Below.refl _ _⟩
      · have HR : Hid (ckK 3 [x, y] = -1) := ck_len (by intro h; first | omega | simp) (by intro h; first | omega | simp)
        clear HA hcells
        go_wp2
        go_ret
        exact ⟨ret_int HR.out.symm, Below.refl _ _⟩
      · have HR : Hid (ckK 4 [x, y] = -1) := ck_len (by intro h; first | omega | simp) (by intro h; first | omega | simp)
        clear HA hcells
        go_wp2
        go_ret
        exact ⟨ret_int HR.out.symm, Below.refl _ _⟩
      · have HR : Hid (ckK 5 [x, y] = -1) := ck_len (by intro h; first | omega | simp) (by intro h; first | omega | simp)
        clear HA hcells
        go_wp2
        go_ret
        exact ⟨ret_int HR.out.symm, Below.refl _ _⟩
      · obtain ⟨gb, o, rfl, hgb, hcs⟩ := hcells (by simp)
        have d0 : w.cell? ⟨gb, o, none⟩ = some (.int .i64 x) := by simpa using hcs 0 (by simp)
        have d1 : w.cell? ⟨gb, o + 1, none⟩ = some (.int .i64 y) := by simpa using hcs 1 (by simp)
        clear hcs hcells
        have HRR : Hid (ckK 6 [x, y] = if 0 ≤ opk 7 x y then x else -1) := ck_nullif HA.out
        clear HA
        have hcon := fun w => opKind_spec 7 x y w
        generalize opk 7 x y = q at hcon HRR
        by_cases c : 0 ≤ q
        · have HV : Hid (ckK 6 [x, y] = x) := by have h := HRR.out; rw [if_pos c] at h; exact h
          go_wp2
          go_quiet ((go_at_call 38; exact Calls.quiet_of_same (hcon _)))
          go_wp2
          go_ret
          exact ⟨ret_int HV.out.symm, below_drewN _ _⟩
        · have HV : Hid (ckK 6 [x, y] = -1) := by have h := HRR.out; rw [if_neg c] at h; exact h
          have c' : decide (0 ≤ q) = false := by simpa using c
          go_wp2
          go_quiet ((go_at_call 38; exact Calls.quiet_of_same (hcon _)))
          go_wp2
          go_ret
          exact ⟨ret_int HV.out.symm, below_drewN _ _⟩
      · have HR : Hid (ckK 7 [x, y] = -1) := ck_len (by intro h; first | omega | simp) (by intro h; first | omega | simp)
        clear HA hcells
        go_wp2
        go_ret
        exact ⟨ret_int HR.out.symm, Below.refl _ _⟩
      · have HR : Hid (ckK 8 [x, y] = -1) := ck_len (by intro h; first | omega | simp) (by intro h; first | omega | simp)
        clear HA hcells
        go_wp2
        go_ret
        exact ⟨ret_int HR.out.symm, Below.refl _ _⟩
      · have HR : Hid (ckK 9 [x, y] = -1) := ck_len (by intro h; first | omega | simp) (by intro h; first | omega | simp)
        clear HA hcells
        go_wp2
        go_ret
        exact ⟨ret_int HR.out.symm, Below.refl _ _⟩
      · have HR : Hid (ckK 10 [x, y] = -1) := ck_len (by intro h; first | omega | simp) (by intro h; first | omega | simp)
        clear HA hcells
        go_wp2
        go_ret
        exact ⟨ret_int HR.out.symm, Below.refl _ _⟩
      · have HR : Hid (ckK 11 [x, y] = -1) := ck_len (by intro h; first | omega | simp) (by intro h; first | omega | simp)
        clear HA hcells
        go_wp2
        go_ret
        exact ⟨ret_int HR.out.symm, Below.refl _ _⟩
      · obtain ⟨gb, o, rfl, hgb, hcs⟩ := hcells (by simp)
        have d0 : w.cell? ⟨gb, o, none⟩ = some (.int .i64 x) := by simpa using hcs 0 (by simp)
        have d1 : w.cell? ⟨gb, o + 1, none⟩ = some (.int .i64 y) := by simpa using hcs 1 (by simp)
        clear hcs hcells
        have HRR : Hid (ckK 12 [x, y] = if fitB y x = true then x else if (x == 0) = true then y else -1) := ck_two (by omega) HA.out
        clear HA
        have hcon := fun w => fits_spec y x w
        cases e2 : fitB y x
        · rw [e2] at hcon
          cases e3 : (x == 0)
          all_goals
            go_wp2
            go_quiet ((go_at_call 37; exact Calls.quiet_of_same (hcon _)))
            go_wp2
            go_ret
            exact ⟨ret_int (by rw [HRR.out, e2, e3]; simp), below_drewN _ _⟩
        · rw [e2] at hcon
          go_wp2
          go_quiet ((go_at_call 37; exact Calls.quiet_of_same (hcon _)))
          go_wp2
          go_ret
          exact ⟨ret_int (by rw [HRR.out, e2]; simp), below_drewN _ _⟩
      · obtain ⟨gb, o, rfl, hgb, hcs⟩ := hcells (by simp)
        have d0 : w.cell? ⟨gb, o, none⟩ = some (.int .i64 x) := by simpa using hcs 0 (by simp)
        have d1 : w.cell? ⟨gb, o + 1, none⟩ = some (.int .i64 y) := by simpa using hcs 1 (by simp)
        clear hcs hcells
        have HRR : Hid (ckK 13 [x, y] = if fitB y x = true then x else if (x == 0) = true then y else -1) := ck_two (by omega) HA.out
        clear HA
        have hcon := fun w => fits_spec y x w
        cases e2 : fitB y x
        · rw [e2] at hcon
          cases e3 : (x == 0)
          all_goals
            go_wp2
            go_quiet ((go_at_call 37; exact Calls.quiet_of_same (hcon _)))
            go_wp2
            go_ret
            exact ⟨ret_int (by rw [HRR.out, e2, e3]; simp), below_drewN _ _⟩
        · rw [e2] at hcon
          go_wp2
          go_quiet ((go_at_call 37; exact Calls.quiet_of_same (hcon _)))
          go_wp2
          go_ret
          exact ⟨ret_int (by rw [HRR.out, e2]; simp), below_drewN _ _⟩
end Go.Proofs.YtdcdoeolaongkaaGreatDoor.Mp
namespace Go.Proofs.YtdcdoeolaongkaaGreatDoor.Mp
open Go.MapKept Go.ChangeMaps
open Go.ChangeShapes Go.WideShapes Go.ChangeAt Go.RowKit
open Go.Proofs.YtdcdoeolaongkaaGreatDoor.Ok
set_option linter.unusedVariables false
set_option linter.unusedSimpArgs false
set_option maxRecDepth 100000
set_option maxHeartbeats 20000000 in
theorem sck_three (fn : Int) (x y z : Int) (a : Option Addr) (cap : Nat) (w : World) (hk : RIO w (.slice a [x, y, z].length cap) [x, y, z]) (h13 : fn = 1 ∨ fn = 2 ∨ fn = 3 ∨ fn = 4 ∨ fn = 5 ∨ fn = 6 ∨ fn = 7 ∨ fn = 8 ∨ fn = 9 ∨ fn = 10 ∨ fn = 11 ∨ fn = 12 ∨ fn = 13) :
    Calls Tryz.prog 9 #[.int .i64 fn, .slice a [x, y, z].length cap] w fun e w' => e = .returned (.int .i64 (ckK fn [x, y, z])) ∧ Below w.heap.size w w' := by
  obtain ⟨a', cap', hsl, hcells⟩ := hk
  simp only [Value.slice.injEq] at hsl
  obtain ⟨rfl, _, rfl⟩ := hsl
  simp only [List.length_cons, List.length_nil, Nat.zero_add, Nat.reduceAdd]
  go_enter Tryz.func9, Tryz.ntmps9
  go_wp2
  go_loop [6, 13] (fun _ i => ∃ k : Nat, k ≤ 3 ∧ i = .int .i64 k ∧ Hid (allK ([x, y, z].take k) = true)) (fun _ i => 3 - (intOf i).toNat)
  case atStart => exact ⟨0, Nat.zero_le _, rfl, (rfl : allK [] = true)⟩
  case round =>
    obtain ⟨k, hkl, rfl, HA⟩ := hrel
    by_cases hlt : k < 3
    · have hlti : (k : Int) < 3 := by omega
      have hlt' : k < [x, y, z].length := hlt
      obtain ⟨gb, o, rfl, hgb, hcs⟩ := hcells (by simp)
      have d1 := hcs k hlt'
      have HN : Hid (isK [x, y, z][k] = false → ckK fn [x, y, z] = -1) := fun h => ckK_no (allK_no hlt' h)
      have HY : Hid (isK [x, y, z][k] = true → allK ([x, y, z].take (k + 1)) = true) := fun h => allK_step hlt' HA.out h
      clear hcs hcells HA
      generalize [x, y, z][k] = xk at d1 HN HY
      have hcon := fun w => isKind_spec xk w
      cases hf : isK xk
      · have HN' : Hid (ckK fn [x, y, z] = -1) := HN.out hf
        clear HN HY
        rw [hf] at hcon
        go_wp2_with (go_at_call 36; refine (hcon _).mono ?_; rintro e w' ⟨rfl, rfl⟩)
        go_ret
        exact ⟨ret_int HN'.out.symm, Below.refl _ _⟩
      · have HY' : Hid (allK ([x, y, z].take (k + 1)) = true) := HY.out hf
        clear HN HY
        rw [hf] at hcon
        go_wp2_with (go_at_call 36; refine (hcon _).mono ?_; rintro e w' ⟨rfl, rfl⟩)
        go_round
        case rel => exact ⟨k + 1, by omega, by go_num, HY'⟩
        case measure => simp [intOf]; omega
    · have hkn : k = 3 := by omega
      subst hkn
      have hlti : ¬ (3 : Int) < 3 := by omega
      replace HA : Hid (allK [x, y, z] = true) := (HA.out : allK [x, y, z] = true)
      rcases h13 with rfl | rfl | rfl | rfl | rfl | rfl | rfl | rfl | rfl | rfl | rfl | rfl | rfl
      · have HR : Hid (ckK 1 [x, y, z] = -1) := ck_len (by intro h; first | omega | simp) (by intro h; first | omega | simp)
        clear HA hcells
        go_wp2
        go_ret
        exact ⟨ret_int HR.out.symm, Below.refl _ _⟩
      · have HR : Hid (ckK 2 [x, y, z] = -1) := ck_len (by intro h; first | omega | simp) (by intro h; first | omega | simp)
        clear HA hcells
        go_wp2
        go_ret
        exact ⟨ret_int HR.out.symm, Below.refl _ _⟩
      · have HR : Hid (ckK 3 [x, y, z] = -1) := ck_len (by intro h; first | omega | simp) (by intro h; first | omega | simp)
        clear HA hcells
        go_wp2
        go_ret
        exact ⟨ret_int HR.out.symm, Below.refl _ _⟩
      · have HR : Hid (ckK 4 [x, y, z] = -1) := ck_len (by intro h; first | omega | simp) (by intro h; first | omega | simp)
        clear HA hcells
        go_wp2
        go_ret
        exact ⟨ret_int HR.out.symm, Below.refl _ _⟩
      · obtain ⟨gb, o, rfl, hgb, hcs⟩ := hcells (by simp)
        have d0 : w.cell? ⟨gb, o, none⟩ = some (.int .i64 x) := by simpa using hcs 0 (by simp)
        have d1 : w.cell? ⟨gb, o + 1, none⟩ = some (.int .i64 y) := by simpa using hcs 1 (by simp)
        have d2 : w.cell? ⟨gb, o + 2, none⟩ = some (.int .i64 z) := by simpa using hcs 2 (by simp)
        clear hcs hcells
        have HRR : Hid (ckK 5 [x, y, z] = if fitB x 3 = true ∧ fitB y 1 = true ∧ fitB z 1 = true then 3 else -1) := ck_three HA.out
        clear HA
        cases e1 : fitB x 3
        · go_wp2_with (go_at_call 37; refine (fits_spec _ _ _).mono ?_; rintro e w' ⟨rfl, rfl⟩)
          go_ret
          exact ⟨ret_int (by rw [HRR.out, e1]; simp), Below.refl _ _⟩
        cases e2 : fitB y 1
        · go_wp2_with (go_at_call 37; refine (fits_spec _ _ _).mono ?_; rintro e w' ⟨rfl, rfl⟩)
          go_ret
          exact ⟨ret_int (by rw [HRR.out, e2]; simp), Below.refl _ _⟩
        cases e3 : fitB z 1
        · go_wp2_with (go_at_call 37; refine (fits_spec _ _ _).mono ?_; rintro e w' ⟨rfl, rfl⟩)
          go_ret
          exact ⟨ret_int (by rw [HRR.out, e3]; simp), Below.refl _ _⟩
        · go_wp2_with (go_at_call 37; refine (fits_spec _ _ _).mono ?_; rintro e w' ⟨rfl, rfl⟩)
          go_ret
          exact ⟨ret_int (by rw [HRR.out, e1, e2, e3]; simp), Below.refl _ _⟩
      · have HR : Hid (ckK 6 [x, y, z] = -1) := ck_len (by intro h; first | omega | simp) (by intro h; first | omega | simp)
        clear HA hcells
        go_wp2
        go_quiet (fail)
        go_wp2
        go_ret
        exact ⟨ret_int HR.out.symm, below_drewN _ _⟩
      · have HR : Hid (ckK 7 [x, y, z] = -1) := ck_len (by intro h; first | omega | simp) (by intro h; first | omega | simp)
        clear HA hcells
        go_wp2
        go_ret
        exact ⟨ret_int HR.out.symm, Below.refl _ _⟩
      · have HR : Hid (ckK 8 [x, y, z] = -1) := ck_len (by intro h; first | omega | simp) (by intro h; first | omega | simp)
        clear HA hcells
        go_wp2
        go_ret
        exact ⟨ret_int HR.out.symm, Below.refl _ _⟩
      · have HR : Hid (ckK 9 [x, y, z] = -1) := ck_len (by intro h; first | omega | simp) (by intro h; first | omega | simp)
        clear HA hcells
        go_wp2
        go_ret
        exact ⟨ret_int HR.out.symm, Below.refl _ _⟩
      · have HR : Hid (ckK 10 [x, y, z] = -1) := ck_len (by intro h; first | omega | simp) (by intro h; first | omega | simp)
        clear HA hcells
        go_wp2
        go_ret
        exact ⟨ret_int HR.out.symm, Below.refl _ _⟩
      · have HR : Hid (ckK 11 [x, y, z] = -1) := ck_len (by intro h; first | omega | simp) (by intro h; first | omega | simp)
        clear HA hcells
        go_wp2
        go_ret
        exact ⟨ret_int HR.out.symm, Below.refl _ _⟩
      · have HR : Hid (ckK 12 [x, y, z] = -1) := ck_len (by intro h; first | omega | simp) (by intro h; first | omega | simp)
        clear HA hcells
        go_wp2
        go_quiet (fail)
        go_wp2
        go_ret
        exact ⟨ret_int HR.out.symm, below_drewN _ _⟩
      · have HR : Hid (ckK 13 [x, y, z] = -1) := ck_len (by intro h; first | omega | simp) (by intro h; first | omega | simp)
        clear HA hcells
        go_wp2
        go_quiet (fail)
        go_wp2
        go_ret
        exact ⟨ret_int HR.out.symm, below_drewN _ _⟩
end Go.Proofs.YtdcdoeolaongkaaGreatDoor.Mp
namespace Go.Proofs.YtdcdoeolaongkaaGreatDoor.Mp
open Go.MapKept Go.ChangeMaps
open Go.ChangeShapes Go.WideShapes Go.ChangeAt Go.RowKit
open Go.Proofs.YtdcdoeolaongkaaGreatDoor.Ok
set_option linter.unusedVariables false
set_option linter.unusedSimpArgs false
set_option maxRecDepth 100000
set_option maxHeartbeats 20000000 in
theorem sck_other (fn : Int) (ks : List Int) (a : Option Addr) (cap : Nat) (w : World) (hk : RIO w (.slice a ks.length cap) ks) (h13 : fn = 1 ∨ fn = 2 ∨ fn = 3 ∨ fn = 4 ∨ fn = 5 ∨ fn = 6 ∨ fn = 7 ∨ fn = 8 ∨ fn = 9 ∨ fn = 10 ∨ fn = 11 ∨ fn = 12 ∨ fn = 13) (h8 : ks.length ≤ 8) (hl1 : ks.length ≠ 1) (hl2 : ks.length ≠ 2) (hl3 : ks.length ≠ 3) :
    Calls Tryz.prog 9 #[.int .i64 fn, .slice a ks.length cap] w fun e w' => e = .returned (.int .i64 (ckK fn ks)) ∧ Below w.heap.size w w' := by
  obtain ⟨a', cap', hsl, hcells⟩ := hk
  simp only [Value.slice.injEq] at hsl
  obtain ⟨rfl, _, rfl⟩ := hsl
  go_enter Tryz.func9, Tryz.ntmps9
  go_wp2
  go_loop [6, 13] (fun _ i => ∃ k : Nat, k ≤ ks.length ∧ i = .int .i64 k ∧ Hid (allK (ks.take k) = true)) (fun _ i => ks.length - (intOf i).toNat)
  case atStart => exact ⟨0, Nat.zero_le _, rfl, (rfl : allK [] = true)⟩
  case round =>
    obtain ⟨k, hkl, rfl, HA⟩ := hrel
    by_cases hlt : k < ks.length
    · have hlti : (k : Int) < ks.length := by omega
      have hlt' : k < ks.length := hlt
      obtain ⟨gb, o, rfl, hgb, hcs⟩ := hcells (by omega)
      have d1 := hcs k hlt'
      have HN : Hid (isK ks[k] = false → ckK fn ks = -1) := fun h => ckK_no (allK_no hlt' h)
      have HY : Hid (isK ks[k] = true → allK (ks.take (k + 1)) = true) := fun h => allK_step hlt' HA.out h
      clear hcs hcells HA
      generalize ks[k] = x at d1 HN HY
      have hcon := fun w => isKind_spec x w
      cases hf : isK x
      · have HN' : Hid (ckK fn ks = -1) := HN.out hf
        clear HN HY
        rw [hf] at hcon
        go_wp2_with (go_at_call 36; refine (hcon _).mono ?_; rintro e w' ⟨rfl, rfl⟩)
        go_ret
        exact ⟨ret_int HN'.out.symm, Below.refl _ _⟩
      · have HY' : Hid (allK (ks.take (k + 1)) = true) := HY.out hf
        clear HN HY
        rw [hf] at hcon
        go_wp2_with (go_at_call 36; refine (hcon _).mono ?_; rintro e w' ⟨rfl, rfl⟩)
        go_round
        case rel => exact ⟨k + 1, by omega, by go_num, HY'⟩
        case measure => simp [intOf]; omega
    · have hkn : k = ks.length := by omega
      subst hkn
      have hlti : ¬ (ks.length : Int) < ks.length := by omega
      replace HA : Hid (allK ks = true) := (by have h := HA.out; rw [List.take_length] at h; exact h : allK ks = true)
      have HR : Hid (ckK fn ks = -1) := ck_len (by intro _; split <;> omega) (by intro _; omega)
      clear HA hcells
      have l1 : ((ks.length : Int) == 1) = false := by simp; omega
      have l2 : ((ks.length : Int) == 2) = false := by simp; omega
      have l3 : ((ks.length : Int) == 3) = false := by simp; omega
      rcases h13 with rfl | rfl | rfl | rfl | rfl | rfl | rfl | rfl | rfl | rfl | rfl | rfl | rfl
      · go_wp2
        go_ret
        exact ⟨ret_int HR.out.symm, Below.refl _ _⟩
      · go_wp2
        go_ret
        exact ⟨ret_int HR.out.symm, Below.refl _ _⟩
      · go_wp2
        go_ret
        exact ⟨ret_int HR.out.symm, Below.refl _ _⟩
      · go_wp2
        go_ret
        exact ⟨ret_int HR.out.symm, Below.refl _ _⟩
      · go_wp2
        go_ret
        exact ⟨ret_int HR.out.symm, Below.refl _ _⟩
      · go_wp2
        go_quiet (fail)
        go_wp2
        go_ret
        exact ⟨ret_int HR.out.symm, below_drewN _ _⟩
      · go_wp2
        go_ret
        exact ⟨ret_int HR.out.symm, Below.refl _ _⟩
      · go_wp2
        go_ret
        exact ⟨ret_int HR.out.symm, Below.refl _ _⟩
      · go_wp2
        go_ret
        exact ⟨ret_int HR.out.symm, Below.refl _ _⟩
      · go_wp2
        go_ret
        exact ⟨ret_int HR.out.symm, Below.refl _ _⟩
      · go_wp2
        go_ret
        exact ⟨ret_int HR.out.symm, Below.refl _ _⟩
      · go_wp2
        go_quiet (fail)
        go_wp2
        go_ret
        exact ⟨ret_int HR.out.symm, below_drewN _ _⟩
      · go_wp2
        go_quiet (fail)
        go_wp2
        go_ret
        exact ⟨ret_int HR.out.symm, below_drewN _ _⟩
set_option maxHeartbeats 20000000 in
theorem sck_none (fn : Int) (ks : List Int) (a : Option Addr) (cap : Nat) (w : World) (hk : RIO w (.slice a ks.length cap) ks) (hno : fn < 1 ∨ 13 < fn) (h8 : ks.length ≤ 8) :
    Calls Tryz.prog 9 #[.int .i64 fn, .slice a ks.length cap] w fun e w' => e = .returned (.int .i64 (ckK fn ks)) ∧ Below w.heap.size w w' := by
  obtain ⟨a', cap', hsl, hcells⟩ := hk
  simp only [Value.slice.injEq] at hsl
  obtain ⟨rfl, _, rfl⟩ := hsl
  go_enter Tryz.func9, Tryz.ntmps9
  go_wp2
  go_loop [6, 13] (fun _ i => ∃ k : Nat, k ≤ ks.length ∧ i = .int .i64 k ∧ Hid (allK (ks.take k) = true)) (fun _ i => ks.length - (intOf i).toNat)
  case atStart => exact ⟨0, Nat.zero_le _, rfl, (rfl : allK [] = true)⟩
  case round =>
    obtain ⟨k, hkl, rfl, HA⟩ := hrel
    by_cases hlt : k < ks.length
    · have hlti : (k : Int) < ks.length := by omega
      have hlt' : k < ks.length := hlt
      obtain ⟨gb, o, rfl, hgb, hcs⟩ := hcells (by omega)
      have d1 := hcs k hlt'
      have HN : Hid (isK ks[k] = false → ckK fn ks = -1) := fun h => ckK_no (allK_no hlt' h)
      have HY : Hid (isK ks[k] = true → allK (ks.take (k + 1)) = true) := fun h => allK_step hlt' HA.out h
      clear hcs hcells HA
      generalize ks[k] = x at d1 HN HY
      have hcon := fun w => isKind_spec x w
      cases hf : isK x
      · have HN' : Hid (ckK fn ks = -1) := HN.out hf
        clear HN HY
        rw [hf] at hcon
        go_wp2_with (go_at_call 36; refine (hcon _).mono ?_; rintro e w' ⟨rfl, rfl⟩)
        go_ret
        exact ⟨ret_int HN'.out.symm, Below.refl _ _⟩
      · have HY' : Hid (allK (ks.take (k + 1)) = true) := HY.out hf
        clear HN HY
        rw [hf] at hcon
        go_wp2_with (go_at_call 36; refine (hcon _).mono ?_; rintro e w' ⟨rfl, rfl⟩)
        go_round
        case rel => exact ⟨k + 1, by omega, by go_num, HY'⟩
        case measure => simp [intOf]; omega
    · have hkn : k = ks.length := by omega
      subst hkn
      have hlti : ¬ (ks.length : Int) < ks.length := by omega
      replace HA : Hid (allK ks = true) := (by have h := HA.out; rw [List.take_length] at h; exact h : allK ks = true)
      have HR : Hid (ckK fn ks = -1) := (by unfold ckK; rw [if_pos hno] : ckK fn ks = -1)
      clear HA hcells
      have g1 : (fn == 1) = false := by simp; omega
      have g2 : (fn == 2) = false := by simp; omega
      have g3 : (fn == 3) = false := by simp; omega
      have g4 : (fn == 4) = false := by simp; omega
      have g5 : (fn == 5) = false := by simp; omega
      have g6 : (fn == 6) = false := by simp; omega
      have g7 : (fn == 7) = false := by simp; omega
      have g8 : (fn == 8) = false := by simp; omega
      have g9 : (fn == 9) = false := by simp; omega
      have g10 : (fn == 10) = false := by simp; omega
      have g11 : (fn == 11) = false := by simp; omega
      have g12 : (fn == 12) = false := by simp; omega
      have g13 : (fn == 13) = false := by simp; omega
      go_wp2
      go_ret
      exact ⟨ret_int HR.out.symm, Below.refl _ _⟩
end Go.Proofs.YtdcdoeolaongkaaGreatDoor.Mp
namespace Go.Proofs.YtdcdoeolaongkaaGreatDoor.Mp
open Go.MapKept Go.ChangeMaps
open Go.ChangeShapes Go.WideShapes Go.ChangeAt Go.RowKit
open Go.Proofs.YtdcdoeolaongkaaGreatDoor.Ok
set_option linter.unusedVariables false
set_option linter.unusedSimpArgs false
set_option maxRecDepth 100000
theorem len_three {ks : List Int} (h : ks.length = 3) : ∃ x y z, ks = [x, y, z] := by
  match ks, h with
  | [x, y, z], _ => exact ⟨x, y, z, rfl⟩
theorem callKind_spec (fn : Int) (ks : List Int) (a : Option Addr) (cap : Nat) (w : World) (hn : ks.length ≤ 1048576) (hk : RIO w (.slice a ks.length cap) ks) :
    Calls Tryz.prog 9 #[.int .i64 fn, .slice a ks.length cap] w fun e w' => e = .returned (.int .i64 (ckK fn ks)) ∧ Below w.heap.size w w' := by
  by_cases h8 : ks.length ≤ 8
  · by_cases hno : fn < 1 ∨ 13 < fn
    · exact sck_none fn ks a cap w hk hno h8
    have h13 : fn = 1 ∨ fn = 2 ∨ fn = 3 ∨ fn = 4 ∨ fn = 5 ∨ fn = 6 ∨ fn = 7 ∨ fn = 8 ∨ fn = 9 ∨ fn = 10 ∨ fn = 11 ∨ fn = 12 ∨ fn = 13 := by omega
    by_cases l1 : ks.length = 1
    · obtain ⟨x, rfl⟩ := List.length_eq_one_iff.1 l1
      exact sck_one fn x a cap w hk h13
    by_cases l2 : ks.length = 2
    · obtain ⟨x, y, rfl⟩ := len_two l2
      exact sck_two fn x y a cap w hk h13
    by_cases l3 : ks.length = 3
    · obtain ⟨x, y, z, rfl⟩ := len_three l3
      exact sck_three fn x y z a cap w hk h13
    exact sck_other fn ks a cap w hk h13 h8 l1 l2 l3
  · have HR : Hid (ckK fn ks = -1) := ckK_long (by omega) (by omega) (by omega)
    have hb : (8 : Int) < ks.length := by omega
    go_enter Tryz.func9, Tryz.ntmps9
    go_wp2
    go_ret
    exact ⟨ret_int HR.out.symm, Below.refl _ _⟩
end Go.Proofs.YtdcdoeolaongkaaGreatDoor.Mp
namespace Go.Proofs.YtdcdoeolaongkaaGreatDoor.Ca
open Go.MapKept Go.ChangeMaps
open Go.ChangeShapes Go.WideShapes Go.ChangeAt Go.RowKit Go.Shelf
open Go.Proofs.YtdcdoeolaongkaaGreatDoor.Rd
set_option linter.unusedVariables false
set_option linter.unusedSimpArgs false
set_option maxRecDepth 100000
set_option maxHeartbeats 4000000 in
theorem callS_big (fn : Int) (a : Option Addr) (n cap : Nat) (w : World) (h8 : 8 < n) :
    Calls Tryz.prog 33 #[.int .i64 fn, .slice a n cap] w fun e w' => e = .returned (tV 0 0 ⟨#[]⟩ 1) ∧ Below w.heap.size w w' := by
  have h8i : (8 : Int) < n := by omega
  go_enter Tryz.func33, Tryz.ntmps33
  go_wp2
  refine bodyPost_ret (v := tV 0 0 ⟨#[]⟩ 1) (by simp [results, Tryz.results33, go_sem, tV]) rfl ⟨rfl, (by (go_light; repeat (first | with_reducible assumption | with_reducible exact Below.refl _ _ | (with_reducible refine Below.setCell ?_ ?_ _; rotate_left; (focus first | (simp; done) | (simp; omega) | omega)) | (with_reducible refine Below.alloc ?_ ?_ _; rotate_left; (focus first | (simp; done) | (simp; omega) | omega)) | with_reducible refine Below.drew ?_)))⟩
set_option maxHeartbeats 16000000 in
theorem callS_bad (fn : Int) (ar : List TA) (a : Option Addr) (cap : Nat) (w : World) (h8 : ar.length ≤ 8) (hr : RVO w (.slice a ar.length cap) ar) (hsz : ∀ t ∈ ar, t.2.2.size ≤ 1048576) (hbad : Hid (¬ ∀ t ∈ ar, vok t.1 t.2.1 t.2.2 = true)) :
    Calls Tryz.prog 33 #[.int .i64 fn, .slice a ar.length cap] w fun e w' => e = .returned (tV 0 0 ⟨#[]⟩ 1) ∧ Below w.heap.size w w' := by
  obtain ⟨i0, hi, hz0, hz1, hz2⟩ := info_parts info3
  have hrr := hr
  obtain ⟨a', cap', hsl, hcells⟩ := hr
  simp only [Value.slice.injEq] at hsl
  obtain ⟨rfl, _, rfl⟩ := hsl
  have h8i : ¬ (8 : Int) < ar.length := by omega
  have bw0 := below_alloc w (.cells #[.int .i64 0, .int .i64 0, .string ⟨#[]⟩] 29)
  have HCE : Hid _ := hcells
  clear hrr
  go_enter Tryz.func33, Tryz.ntmps33
  go_wp2
  generalize hW0 : w.alloc (.cells #[.int .i64 0, .int .i64 0, .string ⟨#[]⟩] 29) = W0 at *
  have hsE : W0.heap.size = w.heap.size + 1 := by rw [← hW0]; simp
  have HSE : Hid _ := hsE
  have hs0 : w.heap.size < W0.heap.size := by omega
  clear hsE
  have r0 : W0.cell? ⟨w.heap.size, 0, none⟩ = some (.int .i64 0) ∧ W0.cell? ⟨w.heap.size, 1, none⟩ = some (.int .i64 0) ∧ W0.cell? ⟨w.heap.size, 2, none⟩ = some (.string ⟨#[]⟩) ∧ W0.frozen? ⟨w.heap.size, 0, none⟩ = false ∧ W0.frozen? ⟨w.heap.size, 1, none⟩ = false ∧ W0.frozen? ⟨w.heap.size, 2, none⟩ = false := by
    rw [← hW0]; simp [go_sem]
  have HR0 : Hid _ := r0
  have HB0 : Hid (Below w.heap.size w W0) := bw0
  clear r0 bw0 hW0
  go_loopw [6, 8, 33] (fun kv _ i wr => ∃ k : Nat, k ≤ ar.length ∧ i = .int .i64 k ∧ OwnK W0.heap.size kv k (kindsA (ar.take k)) wr ∧ Below W0.heap.size W0 wr ∧ Hid (∀ m (h : m < ar.length), m < k → vok ar[m].1 ar[m].2.1 ar[m].2.2 = true)) (fun _ _ i _ => ar.length - (intOf i).toNat)
  case atStart =>
    refine ⟨0, Nat.zero_le _, rfl, ?_, (Below.refl _ _).alloc (Nat.le_refl _) _, (fun m h hm => by omega : ∀ m (h : m < ar.length), m < 0 → vok ar[m].1 ar[m].2.1 ar[m].2.2 = true)⟩
    rw [← HSE.out]
    exact World.ownsRow_made W0 #[] 0 (Nat.le_refl _) (by unfold maxLen; omega) (by simp)
  case round =>
    obtain ⟨k, hk, rfl, hoK, hbel, HAV⟩ := hrel
    have ho : wr.ownsRow W0.heap.size 3 1 _ k ((kindsA (ar.take k)).map (Value.int .i64)) := hoK
    clear hoK
    have hbs := hbel.size
    by_cases hlt : k < ar.length
    · have hlti : (k : Int) < ar.length := by omega
      obtain ⟨g, o, rfl, hgg, hgc⟩ := hcells (by omega)
      have bww : Below w.heap.size w wr := HB0.out.trans (hbel.mono (by omega))
      obtain ⟨c0, c1, c2⟩ := hgc k hlt
      have d0 := (bww.cell (p := ⟨g, o + k * 3, none⟩) hgg).trans c0
      have d1 := (bww.cell (p := ⟨g, o + k * 3 + 1, none⟩) hgg).trans c1
      have d2 := (bww.cell (p := ⟨g, o + k * 3 + 2, none⟩) hgg).trans c2
      have hsx := hsz ar[k] (List.getElem_mem hlt)
      have HVS : Hid (vok ar[k].1 ar[k].2.1 ar[k].2.2 = true → ∀ m (h : m < ar.length), m < k + 1 → vok ar[m].1 ar[m].2.1 ar[m].2.2 = true) := (fun hv m h hm => by
        by_cases e : m = k
        · subst e; exact hv
        · exact HAV.out m h (by omega) : vok ar[k].1 ar[k].2.1 ar[k].2.2 = true → ∀ m (h : m < ar.length), m < k + 1 → vok ar[m].1 ar[m].2.1 ar[m].2.2 = true)
      clear HAV hbad
      have HTK : Hid (ar.take (k + 1) = ar.take k ++ [ar[k]]) := take_snoc hlt
      clear c0 c1 c2 hgc hcells hsz HCE
      generalize ar[k] = t at *
      obtain ⟨tk, tn, ts⟩ := t
      simp only at d0 d1 d2 hsx
      have hVX := fun W => vok_spec tk tn ts W hsx
      cases hvv : vok tk tn ts
      · rw [hvv] at hVX
        clear hvv HVS
        obtain ⟨q0, q1, q2, f0, f1, f2⟩ := HR0.out
        go_wp2_with (go_at_call 14; fail)
        refine (hVX _).mono ?_
        rintro e w1 ⟨rfl, hb1⟩
        have b1 : Below W0.heap.size W0 w1 := (hbel.alloc hbs _).trans (hb1.mono (by simp; omega))
        have hy2 : w.heap.size < w1.heap.size := by have := b1.size; omega
        have bw1 : Below w.heap.size w w1 := HB0.out.trans (b1.mono (by omega))
        have p0 := (b1.cell (p := ⟨w.heap.size, 0, none⟩) hs0).trans q0
        have p1 := (b1.cell (p := ⟨w.heap.size, 1, none⟩) hs0).trans q1
        have p2 := (b1.cell (p := ⟨w.heap.size, 2, none⟩) hs0).trans q2
        have j0 := (b1.frozen (p := ⟨w.heap.size, 0, none⟩) hs0).trans f0
        have j1 := (b1.frozen (p := ⟨w.heap.size, 1, none⟩) hs0).trans f1
        have j2 := (b1.frozen (p := ⟨w.heap.size, 2, none⟩) hs0).trans f2
        go_wp2
        refine bodyPost_ret (v := tV 0 0 ⟨#[]⟩ 1) (by simp [results, Tryz.results33, go_sem, tV, p0, p1, p2, j0, j1, j2, hy2]) rfl ⟨rfl, ?_⟩
        exact ((bw1.setCell (Nat.le_refl _) _).setCell (Nat.le_refl _) _).setCell (Nat.le_refl _) _
      rw [hvv] at hVX
      have HVN : Hid _ := HVS.out hvv
      clear HVS hvv
      go_wp2_with (first | (go_at_call 14; refine (hVX _).mono ?_; rintro e w1 ⟨rfl, hb1⟩; obtain ⟨hc1, hf1⟩ := bcell hb1; have hz1w : wr.heap.size < w1.heap.size := (by have := hb1.size; simp at this; omega); have bw1 : Below W0.heap.size W0 w1 := (hbel.alloc hbs _).trans (hb1.mono (by simp; omega)); have ho1 := own_below (ho.alloc _) hb1; have e0 : w1.cell? ⟨wr.heap.size, 0, none⟩ = some (.int .i64 tk) := (hc1 wr.heap.size 0 (by simp)).trans (by simp [go_sem])) | (at_builtin; refine wpList_append_own _ rfl (.tmp 41) (.tmp 44) 22 rfl W0.heap.size 3 i0 (.int .i64 0) 1 8 Tryz.underlying22 hi hz0 hz1 hz2 rfl (by decide) _ k ((kindsA (ar.take k)).map (Value.int .i64)) rfl (ho1.alloc _) ⟨w1.heap.size, 0, none⟩ 1 1 [.int .i64 tk] rfl rfl (cell_one_new _ _ _) (by intro u hu; simp at hu; subst hu; rfl) (by unfold maxLen; omega) (by omega) (by have := bw1.size; simp; omega) ?_; intro v' w2 hown' hgrow _; have bw2 : Below W0.heap.size W0 w2 := (bw1.alloc bw1.size _).grown hgrow (by have := bw1.size; simp; omega) (fun j hj => (ho1.lt j hj).1); have HOW : Hid (OwnK W0.heap.size v' (k + 1) (kindsA (ar.take (k + 1))) w2) := OwnK.of HTK.out hown'; clear hown' hgrow))
      go_roundw
      case rel => exact ⟨k + 1, by omega, by go_num, HOW.out, bw2, HVN⟩
      case measure => simp [intOf]; omega
    · exfalso
      refine hbad.out fun t ht => ?_
      obtain ⟨m, hm, rfl⟩ := List.mem_iff_getElem.1 ht
      exact HAV.out m hm (by omega)
end Go.Proofs.YtdcdoeolaongkaaGreatDoor.Ca
namespace Go.Proofs.YtdcdoeolaongkaaGreatDoor.Ca
open Go.MapKept Go.ChangeMaps
open Go.ChangeShapes Go.WideShapes Go.ChangeAt Go.RowKit Go.Shelf
open Go.Proofs.YtdcdoeolaongkaaGreatDoor.Rd
set_option linter.unusedVariables false
set_option linter.unusedSimpArgs false
set_option maxRecDepth 100000
set_option maxHeartbeats 16000000 in
theorem callS_type (fn : Int) (ar : List TA) (a : Option Addr) (cap : Nat) (w : World) (h8 : ar.length ≤ 8) (hr : RVO w (.slice a ar.length cap) ar) (hsz : ∀ t ∈ ar, t.2.2.size ≤ 1048576) (hv : Hid (∀ t ∈ ar, vok t.1 t.2.1 t.2.2 = true)) (hck : Hid (Mp.ckK fn (kindsA ar) < 0)) :
    Calls Tryz.prog 33 #[.int .i64 fn, .slice a ar.length cap] w fun e w' => e = .returned (tV 0 0 ⟨#[]⟩ 10) ∧ Below w.heap.size w w' := by
  obtain ⟨i0, hi, hz0, hz1, hz2⟩ := info_parts info3
  have hrr := hr
  obtain ⟨a', cap', hsl, hcells⟩ := hr
  simp only [Value.slice.injEq] at hsl
  obtain ⟨rfl, _, rfl⟩ := hsl
  have h8i : ¬ (8 : Int) < ar.length := by omega
  have bw0 := below_alloc w (.cells #[.int .i64 0, .int .i64 0, .string ⟨#[]⟩] 29)
  have HCE : Hid _ := hcells
  clear hrr
  go_enter Tryz.func33, Tryz.ntmps33
  go_wp2
  generalize hW0 : w.alloc (.cells #[.int .i64 0, .int .i64 0, .string ⟨#[]⟩] 29) = W0 at *
  have hsE : W0.heap.size = w.heap.size + 1 := by rw [← hW0]; simp
  have HSE : Hid _ := hsE
  have hs0 : w.heap.size < W0.heap.size := by omega
  clear hsE
  have r0 : W0.cell? ⟨w.heap.size, 0, none⟩ = some (.int .i64 0) ∧ W0.cell? ⟨w.heap.size, 1, none⟩ = some (.int .i64 0) ∧ W0.cell? ⟨w.heap.size, 2, none⟩ = some (.string ⟨#[]⟩) ∧ W0.frozen? ⟨w.heap.size, 0, none⟩ = false ∧ W0.frozen? ⟨w.heap.size, 1, none⟩ = false ∧ W0.frozen? ⟨w.heap.size, 2, none⟩ = false := by
    rw [← hW0]; simp [go_sem]
  have HR0 : Hid _ := r0
  have HB0 : Hid (Below w.heap.size w W0) := bw0
  clear r0 bw0 hW0
  go_loopw [6, 8, 33] (fun kv _ i wr => ∃ k : Nat, k ≤ ar.length ∧ i = .int .i64 k ∧ OwnK W0.heap.size kv k (kindsA (ar.take k)) wr ∧ Below W0.heap.size W0 wr) (fun _ _ i _ => ar.length - (intOf i).toNat)
  case atStart =>
    refine ⟨0, Nat.zero_le _, rfl, ?_, (Below.refl _ _).alloc (Nat.le_refl _) _⟩
    rw [← HSE.out]
    exact World.ownsRow_made W0 #[] 0 (Nat.le_refl _) (by unfold maxLen; omega) (by simp)
  case round =>
    obtain ⟨k, hk, rfl, hoK, hbel⟩ := hrel
    have ho : wr.ownsRow W0.heap.size 3 1 _ k ((kindsA (ar.take k)).map (Value.int .i64)) := hoK
    clear hoK
    have hbs := hbel.size
    by_cases hlt : k < ar.length
    · have hlti : (k : Int) < ar.length := by omega
      obtain ⟨g, o, rfl, hgg, hgc⟩ := hcells (by omega)
      have bww : Below w.heap.size w wr := HB0.out.trans (hbel.mono (by omega))
      obtain ⟨c0, c1, c2⟩ := hgc k hlt
      have d0 := (bww.cell (p := ⟨g, o + k * 3, none⟩) hgg).trans c0
      have d1 := (bww.cell (p := ⟨g, o + k * 3 + 1, none⟩) hgg).trans c1
      have d2 := (bww.cell (p := ⟨g, o + k * 3 + 2, none⟩) hgg).trans c2
      have hsx := hsz ar[k] (List.getElem_mem hlt)
      have hvx := hv.out ar[k] (List.getElem_mem hlt)
      have HTK : Hid (ar.take (k + 1) = ar.take k ++ [ar[k]]) := take_snoc hlt
      clear c0 c1 c2 hgc hcells hsz HCE
      generalize ar[k] = t at *
      obtain ⟨tk, tn, ts⟩ := t
      simp only at d0 d1 d2 hsx
      have hVX := fun W => vok_spec tk tn ts W hsx
      rw [hvx] at hVX
      clear hvx
      go_wp2_with (first | (go_at_call 14; refine (hVX _).mono ?_; rintro e w1 ⟨rfl, hb1⟩; obtain ⟨hc1, hf1⟩ := bcell hb1; have hz1w : wr.heap.size < w1.heap.size := (by have := hb1.size; simp at this; omega); have bw1 : Below W0.heap.size W0 w1 := (hbel.alloc hbs _).trans (hb1.mono (by simp; omega)); have ho1 := own_below (ho.alloc _) hb1; have e0 : w1.cell? ⟨wr.heap.size, 0, none⟩ = some (.int .i64 tk) := (hc1 wr.heap.size 0 (by simp)).trans (by simp [go_sem])) | (at_builtin; refine wpList_append_own _ rfl (.tmp 41) (.tmp 44) 22 rfl W0.heap.size 3 i0 (.int .i64 0) 1 8 Tryz.underlying22 hi hz0 hz1 hz2 rfl (by decide) _ k ((kindsA (ar.take k)).map (Value.int .i64)) rfl (ho1.alloc _) ⟨w1.heap.size, 0, none⟩ 1 1 [.int .i64 tk] rfl rfl (cell_one_new _ _ _) (by intro u hu; simp at hu; subst hu; rfl) (by unfold maxLen; omega) (by omega) (by have := bw1.size; simp; omega) ?_; intro v' w2 hown' hgrow _; have bw2 : Below W0.heap.size W0 w2 := (bw1.alloc bw1.size _).grown hgrow (by have := bw1.size; simp; omega) (fun j hj => (ho1.lt j hj).1); have HOW : Hid (OwnK W0.heap.size v' (k + 1) (kindsA (ar.take (k + 1))) w2) := OwnK.of HTK.out hown'; clear hown' hgrow))
      go_roundw
      case rel => exact ⟨k + 1, by omega, by go_num, HOW.out, bw2⟩
      case measure => simp [intOf]; omega
    · have hkn : k = ar.length := by omega
      subst hkn
      have hlti : ¬ (ar.length : Int) < ar.length := by omega
      rw [List.take_length] at ho
      have hkl : (kindsA ar).length = ar.length := by simp [kindsA]
      rw [← hkl] at ho
      obtain ⟨ka, kc, rfl, hrio⟩ := own_rio ho
      clear ho
      have hck' := hck.out
      generalize hks : kindsA ar = ks at *
      have HKL : Hid (ks.length = ar.length) := hkl
      have bww : Below w.heap.size w wr := HB0.out.trans (hbel.mono (by omega))
      obtain ⟨q0, q1, q2, f0, f1, f2⟩ := HR0.out
      have hwr : w.heap.size < wr.heap.size := by omega
      have hn20 : ks.length ≤ 1048576 := by rw [hkl]; omega
      clear hkl hks HB0
      go_wp2_with (go_at_call 9; fail)
      have hKS := fun W h => Mp.callKind_spec fn ks ka kc W hn20 h
      generalize Mp.ckK fn ks = ck at *
      refine (hKS _ hrio).mono ?_
      rintro e w1 ⟨rfl, hb1⟩
      have b1 : Below W0.heap.size W0 w1 := hbel.trans (hb1.mono hbs)
      have hs1 := b1.size
      have bw1 : Below w.heap.size w w1 := bww.trans (hb1.mono bww.size)
      clear hKS hrio hbel hb1 bww
      have q0 := (b1.cell (p := ⟨w.heap.size, 0, none⟩) hs0).trans q0
      have q1 := (b1.cell (p := ⟨w.heap.size, 1, none⟩) hs0).trans q1
      have q2 := (b1.cell (p := ⟨w.heap.size, 2, none⟩) hs0).trans q2
      have f0 := (b1.frozen (p := ⟨w.heap.size, 0, none⟩) hs0).trans f0
      have f1 := (b1.frozen (p := ⟨w.heap.size, 1, none⟩) hs0).trans f1
      have f2 := (b1.frozen (p := ⟨w.heap.size, 2, none⟩) hs0).trans f2
      have hy1 : w.heap.size < w1.heap.size := by omega
      go_wp2
      refine bodyPost_ret (v := tV 0 0 ⟨#[]⟩ 10) (by simp [results, Tryz.results33, go_sem, tV, q0, q1, q2, f0, f1, f2, hy1]) rfl ⟨rfl, ?_⟩
      exact ((bw1.setCell (Nat.le_refl _) _).setCell (Nat.le_refl _) _).setCell (Nat.le_refl _) _
set_option maxHeartbeats 16000000 in
theorem callS_null (fn : Int) (ar : List TA) (a : Option Addr) (cap : Nat) (w : World) (h8 : ar.length ≤ 8) (hr : RVO w (.slice a ar.length cap) ar) (hsz : ∀ t ∈ ar, t.2.2.size ≤ 1048576) (hv : Hid (∀ t ∈ ar, vok t.1 t.2.1 t.2.2 = true)) (hck : Hid (¬ Mp.ckK fn (kindsA ar) < 0)) (h6 : (fn == 6) = false) (hnu : Hid (nullsA ar = true)) :
    Calls Tryz.prog 33 #[.int .i64 fn, .slice a ar.length cap] w fun e w' => e = .returned (tV 0 0 ⟨#[]⟩ 0) ∧ Below w.heap.size w w' := by
  obtain ⟨i0, hi, hz0, hz1, hz2⟩ := info_parts info3
  have hrr := hr
  obtain ⟨a', cap', hsl, hcells⟩ := hr
  simp only [Value.slice.injEq] at hsl
  obtain ⟨rfl, _, rfl⟩ := hsl
  have h8i : ¬ (8 : Int) < ar.length := by omega
  have bw0 := below_alloc w (.cells #[.int .i64 0, .int .i64 0, .string ⟨#[]⟩] 29)
  have HCE : Hid _ := hcells
  clear hrr
  go_enter Tryz.func33, Tryz.ntmps33
  go_wp2
  generalize hW0 : w.alloc (.cells #[.int .i64 0, .int .i64 0, .string ⟨#[]⟩] 29) = W0 at *
  have hsE : W0.heap.size = w.heap.size + 1 := by rw [← hW0]; simp
  have HSE : Hid _ := hsE
  have hs0 : w.heap.size < W0.heap.size := by omega
  clear hsE
  have r0 : W0.cell? ⟨w.heap.size, 0, none⟩ = some (.int .i64 0) ∧ W0.cell? ⟨w.heap.size, 1, none⟩ = some (.int .i64 0) ∧ W0.cell? ⟨w.heap.size, 2, none⟩ = some (.string ⟨#[]⟩) ∧ W0.frozen? ⟨w.heap.size, 0, none⟩ = false ∧ W0.frozen? ⟨w.heap.size, 1, none⟩ = false ∧ W0.frozen? ⟨w.heap.size, 2, none⟩ = false := by
    rw [← hW0]; simp [go_sem]
  have HR0 : Hid _ := r0
  have HB0 : Hid (Below w.heap.size w W0) := bw0
  clear r0 bw0 hW0
  go_loopw [6, 8, 33] (fun kv _ i wr => ∃ k : Nat, k ≤ ar.length ∧ i = .int .i64 k ∧ OwnK W0.heap.size kv k (kindsA (ar.take k)) wr ∧ Below W0.heap.size W0 wr) (fun _ _ i _ => ar.length - (intOf i).toNat)
  case atStart =>
    refine ⟨0, Nat.zero_le _, rfl, ?_, (Below.refl _ _).alloc (Nat.le_refl _) _⟩
    rw [← HSE.out]
    exact World.ownsRow_made W0 #[] 0 (Nat.le_refl _) (by unfold maxLen; omega) (by simp)
  case round =>
    obtain ⟨k, hk, rfl, hoK, hbel⟩ := hrel
    have ho : wr.ownsRow W0.heap.size 3 1 _ k ((kindsA (ar.take k)).map (Value.int .i64)) := hoK
    clear hoK
    have hbs := hbel.size
    by_cases hlt : k < ar.length
    · have hlti : (k : Int) < ar.length := by omega
      obtain ⟨g, o, rfl, hgg, hgc⟩ := hcells (by omega)
      have bww : Below w.heap.size w wr := HB0.out.trans (hbel.mono (by omega))
      obtain ⟨c0, c1, c2⟩ := hgc k hlt
      have d0 := (bww.cell (p := ⟨g, o + k * 3, none⟩) hgg).trans c0
      have d1 := (bww.cell (p := ⟨g, o + k * 3 + 1, none⟩) hgg).trans c1
      have d2 := (bww.cell (p := ⟨g, o + k * 3 + 2, none⟩) hgg).trans c2
      have hsx := hsz ar[k] (List.getElem_mem hlt)
      have hvx := hv.out ar[k] (List.getElem_mem hlt)
      have HTK : Hid (ar.take (k + 1) = ar.take k ++ [ar[k]]) := take_snoc hlt
      clear c0 c1 c2 hgc hcells hsz HCE
      generalize ar[k] = t at *
      obtain ⟨tk, tn, ts⟩ := t
      simp only at d0 d1 d2 hsx
      have hVX := fun W => vok_spec tk tn ts W hsx
      rw [hvx] at hVX
      clear hvx
      go_wp2_with (first | (go_at_call 14; refine (hVX _).mono ?_; rintro e w1 ⟨rfl, hb1⟩; obtain ⟨hc1, hf1⟩ := bcell hb1; have hz1w : wr.heap.size < w1.heap.size := (by have := hb1.size; simp at this; omega); have bw1 : Below W0.heap.size W0 w1 := (hbel.alloc hbs _).trans (hb1.mono (by simp; omega)); have ho1 := own_below (ho.alloc _) hb1; have e0 : w1.cell? ⟨wr.heap.size, 0, none⟩ = some (.int .i64 tk) := (hc1 wr.heap.size 0 (by simp)).trans (by simp [go_sem])) | (at_builtin; refine wpList_append_own _ rfl (.tmp 41) (.tmp 44) 22 rfl W0.heap.size 3 i0 (.int .i64 0) 1 8 Tryz.underlying22 hi hz0 hz1 hz2 rfl (by decide) _ k ((kindsA (ar.take k)).map (Value.int .i64)) rfl (ho1.alloc _) ⟨w1.heap.size, 0, none⟩ 1 1 [.int .i64 tk] rfl rfl (cell_one_new _ _ _) (by intro u hu; simp at hu; subst hu; rfl) (by unfold maxLen; omega) (by omega) (by have := bw1.size; simp; omega) ?_; intro v' w2 hown' hgrow _; have bw2 : Below W0.heap.size W0 w2 := (bw1.alloc bw1.size _).grown hgrow (by have := bw1.size; simp; omega) (fun j hj => (ho1.lt j hj).1); have HOW : Hid (OwnK W0.heap.size v' (k + 1) (kindsA (ar.take (k + 1))) w2) := OwnK.of HTK.out hown'; clear hown' hgrow))
      go_roundw
      case rel => exact ⟨k + 1, by omega, by go_num, HOW.out, bw2⟩
      case measure => simp [intOf]; omega
    · have hkn : k = ar.length := by omega
      subst hkn
      have hlti : ¬ (ar.length : Int) < ar.length := by omega
      rw [List.take_length] at ho
      have hkl : (kindsA ar).length = ar.length := by simp [kindsA]
      rw [← hkl] at ho
      obtain ⟨ka, kc, rfl, hrio⟩ := own_rio ho
      clear ho
      have hck' := hck.out
      generalize hks : kindsA ar = ks at *
      have HKL : Hid (ks.length = ar.length) := hkl
      have bww : Below w.heap.size w wr := HB0.out.trans (hbel.mono (by omega))
      obtain ⟨q0, q1, q2, f0, f1, f2⟩ := HR0.out
      have hwr : w.heap.size < wr.heap.size := by omega
      have hn20 : ks.length ≤ 1048576 := by rw [hkl]; omega
      clear hkl hks HB0
      go_wp2_with (go_at_call 9; fail)
      have hKS := fun W h => Mp.callKind_spec fn ks ka kc W hn20 h
      generalize Mp.ckK fn ks = ck at *
      refine (hKS _ hrio).mono ?_
      rintro e w1 ⟨rfl, hb1⟩
      have b1 : Below W0.heap.size W0 w1 := hbel.trans (hb1.mono hbs)
      have hs1 := b1.size
      have bw1 : Below w.heap.size w w1 := bww.trans (hb1.mono bww.size)
      clear hKS hrio hbel hb1 bww
      have q0 := (b1.cell (p := ⟨w.heap.size, 0, none⟩) hs0).trans q0
      have q1 := (b1.cell (p := ⟨w.heap.size, 1, none⟩) hs0).trans q1
      have q2 := (b1.cell (p := ⟨w.heap.size, 2, none⟩) hs0).trans q2
      have f0 := (b1.frozen (p := ⟨w.heap.size, 0, none⟩) hs0).trans f0
      have f1 := (b1.frozen (p := ⟨w.heap.size, 1, none⟩) hs0).trans f1
      have f2 := (b1.frozen (p := ⟨w.heap.size, 2, none⟩) hs0).trans f2
      have hy1 : w.heap.size < w1.heap.size := by omega
      go_wp2
      go_loopw [13, 74] (fun _ i wr => ∃ k : Nat, k ≤ ar.length ∧ i = .int .i64 k ∧ Below w1.heap.size w1 wr ∧ Hid (∀ m (h : m < ar.length), m < k → (ar[m].1 == 0) = false)) (fun _ i _ => ar.length - (intOf i).toNat)
      case atStart => exact ⟨0, Nat.zero_le _, rfl, Below.refl _ _, (fun m h hm => by omega : ∀ m (h : m < ar.length), m < 0 → (ar[m].1 == 0) = false)⟩
      case round =>
        obtain ⟨k, hk2, rfl, hb2, HNZ⟩ := hrel
        have hs2 := hb2.size
        have bw2 : Below w.heap.size w wr := bw1.trans (hb2.mono bw1.size)
        by_cases hlt : k < ar.length
        · have hlti : (k : Int) < ar.length := by omega
          obtain ⟨g, o, rfl, hgg, hgc⟩ := HCE.out (by omega)
          obtain ⟨c0, c1, c2⟩ := hgc k hlt
          have d0 := (bw2.cell (p := ⟨g, o + k * 3, none⟩) hgg).trans c0
          have d1 := (bw2.cell (p := ⟨g, o + k * 3 + 1, none⟩) hgg).trans c1
          have d2 := (bw2.cell (p := ⟨g, o + k * 3 + 2, none⟩) hgg).trans c2
          have HNS : Hid ((ar[k].1 == 0) = false → ∀ m (h : m < ar.length), m < k + 1 → (ar[m].1 == 0) = false) := (fun hv m h hm => by
            by_cases e : m = k
            · subst e; exact hv
            · exact HNZ.out m h (by omega) : (ar[k].1 == 0) = false → ∀ m (h : m < ar.length), m < k + 1 → (ar[m].1 == 0) = false)
          clear HNZ hnu hv hck
          clear c0 c1 c2 hgc hcells HCE hsz
          generalize ar[k] = t at *
          obtain ⟨tk, tn, ts⟩ := t
          simp only at d0 d1 d2
          have p0 := (hb2.cell (p := ⟨w.heap.size, 0, none⟩) hy1).trans q0
          have p1 := (hb2.cell (p := ⟨w.heap.size, 1, none⟩) hy1).trans q1
          have p2 := (hb2.cell (p := ⟨w.heap.size, 2, none⟩) hy1).trans q2
          have j0 := (hb2.frozen (p := ⟨w.heap.size, 0, none⟩) hy1).trans f0
          have j1 := (hb2.frozen (p := ⟨w.heap.size, 1, none⟩) hy1).trans f1
          have j2 := (hb2.frozen (p := ⟨w.heap.size, 2, none⟩) hy1).trans f2
          have hy2 : w.heap.size < wr.heap.size := by omega
          cases hz : (tk == 0)
          · have HNN : Hid _ := HNS.out hz
            clear HNS
            go_wp2
            go_roundw
            case rel => exact ⟨k + 1, by omega, by go_num, (by (go_light; repeat (first | with_reducible assumption | with_reducible exact Below.refl _ _ | (with_reducible refine Below.setCell ?_ ?_ _; rotate_left; (focus first | (simp; done) | (simp; omega) | omega)) | (with_reducible refine Below.alloc ?_ ?_ _; rotate_left; (focus first | (simp; done) | (simp; omega) | omega)) | with_reducible refine Below.drew ?_))), HNN⟩
            case measure => simp [intOf]; omega
          · clear HNS
            go_wp2
            refine bodyPost_ret (v := tV 0 0 ⟨#[]⟩ 0) (by simp [results, Tryz.results33, go_sem, tV, p0, p1, p2, j0, j1, j2, hy2]) rfl ⟨rfl, (by (go_light; repeat (first | with_reducible assumption | with_reducible exact Below.refl _ _ | (with_reducible refine Below.setCell ?_ ?_ _; rotate_left; (focus first | (simp; done) | (simp; omega) | omega)) | (with_reducible refine Below.alloc ?_ ?_ _; rotate_left; (focus first | (simp; done) | (simp; omega) | omega)) | with_reducible refine Below.drew ?_)))⟩
        · exfalso
          have h := hnu.out
          simp only [nullsA, List.any_eq_true] at h
          obtain ⟨t, ht, hz⟩ := h
          obtain ⟨m, hm, rfl⟩ := List.mem_iff_getElem.1 ht
          rw [HNZ.out m hm (by omega)] at hz
          cases hz
end Go.Proofs.YtdcdoeolaongkaaGreatDoor.Ca
namespace Go.Proofs.YtdcdoeolaongkaaGreatDoor.Ca
open Go.MapKept Go.ChangeMaps
open Go.ChangeShapes Go.WideShapes Go.ChangeAt Go.RowKit Go.Shelf
open Go.Proofs.YtdcdoeolaongkaaGreatDoor.Rd
set_option linter.unusedVariables false
set_option linter.unusedSimpArgs false
set_option maxRecDepth 100000
set_option maxHeartbeats 16000000 in
theorem callS_abs_pos (k0 n0 : Int) (s0 : ByteArray) (ar : List TA) (a : Option Addr) (cap : Nat) (w : World) (h8 : ar.length ≤ 8) (hr : RVO w (.slice a ar.length cap) ar) (hsz : ∀ t ∈ ar, t.2.2.size ≤ 1048576) (hv : Hid (∀ t ∈ ar, vok t.1 t.2.1 t.2.2 = true)) (hck : Hid (¬ Mp.ckK 1 (kindsA ar) < 0)) (hnn : Hid (∀ t ∈ ar, (t.1 == 0) = false)) (har : Hid (ar = [(k0, n0, s0)])) (hn : 0 ≤ n0) :
    Calls Tryz.prog 33 #[.int .i64 1, .slice a ar.length cap] w fun e w' => e = .returned (tV k0 n0 s0 0) ∧ Below w.heap.size w w' := by
  obtain ⟨i0, hi, hz0, hz1, hz2⟩ := info_parts info3
  have hrr := hr
  obtain ⟨a', cap', hsl, hcells⟩ := hr
  simp only [Value.slice.injEq] at hsl
  obtain ⟨rfl, _, rfl⟩ := hsl
  have h8i : ¬ (8 : Int) < ar.length := by omega
  have bw0 := below_alloc w (.cells #[.int .i64 0, .int .i64 0, .string ⟨#[]⟩] 29)
  have HCE : Hid _ := hcells
  clear hrr
  go_enter Tryz.func33, Tryz.ntmps33
  go_wp2
  generalize hW0 : w.alloc (.cells #[.int .i64 0, .int .i64 0, .string ⟨#[]⟩] 29) = W0 at *
  have hsE : W0.heap.size = w.heap.size + 1 := by rw [← hW0]; simp
  have HSE : Hid _ := hsE
  have hs0 : w.heap.size < W0.heap.size := by omega
  clear hsE
  have r0 : W0.cell? ⟨w.heap.size, 0, none⟩ = some (.int .i64 0) ∧ W0.cell? ⟨w.heap.size, 1, none⟩ = some (.int .i64 0) ∧ W0.cell? ⟨w.heap.size, 2, none⟩ = some (.string ⟨#[]⟩) ∧ W0.frozen? ⟨w.heap.size, 0, none⟩ = false ∧ W0.frozen? ⟨w.heap.size, 1, none⟩ = false ∧ W0.frozen? ⟨w.heap.size, 2, none⟩ = false := by
    rw [← hW0]; simp [go_sem]
  have HR0 : Hid _ := r0
  have HB0 : Hid (Below w.heap.size w W0) := bw0
  clear r0 bw0 hW0
  go_loopw [6, 8, 33] (fun kv _ i wr => ∃ k : Nat, k ≤ ar.length ∧ i = .int .i64 k ∧ OwnK W0.heap.size kv k (kindsA (ar.take k)) wr ∧ Below W0.heap.size W0 wr) (fun _ _ i _ => ar.length - (intOf i).toNat)
  case atStart =>
    refine ⟨0, Nat.zero_le _, rfl, ?_, (Below.refl _ _).alloc (Nat.le_refl _) _⟩
    rw [← HSE.out]
    exact World.ownsRow_made W0 #[] 0 (Nat.le_refl _) (by unfold maxLen; omega) (by simp)
  case round =>
    obtain ⟨k, hk, rfl, hoK, hbel⟩ := hrel
    have ho : wr.ownsRow W0.heap.size 3 1 _ k ((kindsA (ar.take k)).map (Value.int .i64)) := hoK
    clear hoK
    have hbs := hbel.size
    by_cases hlt : k < ar.length
    · have hlti : (k : Int) < ar.length := by omega
      obtain ⟨g, o, rfl, hgg, hgc⟩ := hcells (by omega)
      have bww : Below w.heap.size w wr := HB0.out.trans (hbel.mono (by omega))
      obtain ⟨c0, c1, c2⟩ := hgc k hlt
      have d0 := (bww.cell (p := ⟨g, o + k * 3, none⟩) hgg).trans c0
      have d1 := (bww.cell (p := ⟨g, o + k * 3 + 1, none⟩) hgg).trans c1
      have d2 := (bww.cell (p := ⟨g, o + k * 3 + 2, none⟩) hgg).trans c2
      have hsx := hsz ar[k] (List.getElem_mem hlt)
      have hvx := hv.out ar[k] (List.getElem_mem hlt)
      have HTK : Hid (ar.take (k + 1) = ar.take k ++ [ar[k]]) := take_snoc hlt
      clear c0 c1 c2 hgc hcells hsz HCE
      generalize ar[k] = t at *
      obtain ⟨tk, tn, ts⟩ := t
      simp only at d0 d1 d2 hsx
      have hVX := fun W => vok_spec tk tn ts W hsx
      rw [hvx] at hVX
      clear hvx
      go_wp2_with (first | (go_at_call 14; refine (hVX _).mono ?_; rintro e w1 ⟨rfl, hb1⟩; obtain ⟨hc1, hf1⟩ := bcell hb1; have hz1w : wr.heap.size < w1.heap.size := (by have := hb1.size; simp at this; omega); have bw1 : Below W0.heap.size W0 w1 := (hbel.alloc hbs _).trans (hb1.mono (by simp; omega)); have ho1 := own_below (ho.alloc _) hb1; have e0 : w1.cell? ⟨wr.heap.size, 0, none⟩ = some (.int .i64 tk) := (hc1 wr.heap.size 0 (by simp)).trans (by simp [go_sem])) | (at_builtin; refine wpList_append_own _ rfl (.tmp 41) (.tmp 44) 22 rfl W0.heap.size 3 i0 (.int .i64 0) 1 8 Tryz.underlying22 hi hz0 hz1 hz2 rfl (by decide) _ k ((kindsA (ar.take k)).map (Value.int .i64)) rfl (ho1.alloc _) ⟨w1.heap.size, 0, none⟩ 1 1 [.int .i64 tk] rfl rfl (cell_one_new _ _ _) (by intro u hu; simp at hu; subst hu; rfl) (by unfold maxLen; omega) (by omega) (by have := bw1.size; simp; omega) ?_; intro v' w2 hown' hgrow _; have bw2 : Below W0.heap.size W0 w2 := (bw1.alloc bw1.size _).grown hgrow (by have := bw1.size; simp; omega) (fun j hj => (ho1.lt j hj).1); have HOW : Hid (OwnK W0.heap.size v' (k + 1) (kindsA (ar.take (k + 1))) w2) := OwnK.of HTK.out hown'; clear hown' hgrow))
      go_roundw
      case rel => exact ⟨k + 1, by omega, by go_num, HOW.out, bw2⟩
      case measure => simp [intOf]; omega
    · have hkn : k = ar.length := by omega
      subst hkn
      have hlti : ¬ (ar.length : Int) < ar.length := by omega
      rw [List.take_length] at ho
      have hkl : (kindsA ar).length = ar.length := by simp [kindsA]
      rw [← hkl] at ho
      obtain ⟨ka, kc, rfl, hrio⟩ := own_rio ho
      clear ho
      have hck' := hck.out
      generalize hks : kindsA ar = ks at *
      have HKL : Hid (ks.length = ar.length) := hkl
      have bww : Below w.heap.size w wr := HB0.out.trans (hbel.mono (by omega))
      obtain ⟨q0, q1, q2, f0, f1, f2⟩ := HR0.out
      have hwr : w.heap.size < wr.heap.size := by omega
      have hn20 : ks.length ≤ 1048576 := by rw [hkl]; omega
      clear hkl hks HB0
      go_wp2_with (go_at_call 9; fail)
      have hKS := fun W h => Mp.callKind_spec 1 ks ka kc W hn20 h
      generalize Mp.ckK 1 ks = ck at *
      refine (hKS _ hrio).mono ?_
      rintro e w1 ⟨rfl, hb1⟩
      have b1 : Below W0.heap.size W0 w1 := hbel.trans (hb1.mono hbs)
      have hs1 := b1.size
      have bw1 : Below w.heap.size w w1 := bww.trans (hb1.mono bww.size)
      clear hKS hrio hbel hb1 bww
      have q0 := (b1.cell (p := ⟨w.heap.size, 0, none⟩) hs0).trans q0
      have q1 := (b1.cell (p := ⟨w.heap.size, 1, none⟩) hs0).trans q1
      have q2 := (b1.cell (p := ⟨w.heap.size, 2, none⟩) hs0).trans q2
      have f0 := (b1.frozen (p := ⟨w.heap.size, 0, none⟩) hs0).trans f0
      have f1 := (b1.frozen (p := ⟨w.heap.size, 1, none⟩) hs0).trans f1
      have f2 := (b1.frozen (p := ⟨w.heap.size, 2, none⟩) hs0).trans f2
      have hy1 : w.heap.size < w1.heap.size := by omega
      go_wp2
      go_loopw [13, 74] (fun _ i wr => ∃ k : Nat, k ≤ ar.length ∧ i = .int .i64 k ∧ Below w1.heap.size w1 wr) (fun _ i _ => ar.length - (intOf i).toNat)
      case atStart => exact ⟨0, Nat.zero_le _, rfl, Below.refl _ _⟩
      case round =>
        obtain ⟨k, hk2, rfl, hb2⟩ := hrel
        have hs2 := hb2.size
        have bw2 : Below w.heap.size w wr := bw1.trans (hb2.mono bw1.size)
        by_cases hlt : k < ar.length
        · have hlti : (k : Int) < ar.length := by omega
          obtain ⟨g, o, rfl, hgg, hgc⟩ := HCE.out (by omega)
          obtain ⟨c0, c1, c2⟩ := hgc k hlt
          have d0 := (bw2.cell (p := ⟨g, o + k * 3, none⟩) hgg).trans c0
          have d1 := (bw2.cell (p := ⟨g, o + k * 3 + 1, none⟩) hgg).trans c1
          have d2 := (bw2.cell (p := ⟨g, o + k * 3 + 2, none⟩) hgg).trans c2
          have hnz := hnn.out ar[k] (List.getElem_mem hlt)
          clear c0 c1 c2 hgc hcells HCE hsz
          generalize ar[k] = t at *
          obtain ⟨tk, tn, ts⟩ := t
          simp only at d0 d1 d2 hnz
          go_wp2
          go_roundw
          case rel => exact ⟨k + 1, by omega, by go_num, (by (go_light; repeat (first | with_reducible assumption | with_reducible exact Below.refl _ _ | (with_reducible refine Below.setCell ?_ ?_ _; rotate_left; (focus first | (simp; done) | (simp; omega) | omega)) | (with_reducible refine Below.alloc ?_ ?_ _; rotate_left; (focus first | (simp; done) | (simp; omega) | omega)) | with_reducible refine Below.drew ?_)))⟩
          case measure => simp [intOf]; omega
        · have hkn : k = ar.length := by omega
          subst hkn
          have hlti : ¬ (ar.length : Int) < ar.length := by omega
          have p0 := (hb2.cell (p := ⟨w.heap.size, 0, none⟩) hy1).trans q0
          have p1 := (hb2.cell (p := ⟨w.heap.size, 1, none⟩) hy1).trans q1
          have p2 := (hb2.cell (p := ⟨w.heap.size, 2, none⟩) hy1).trans q2
          have j0 := (hb2.frozen (p := ⟨w.heap.size, 0, none⟩) hy1).trans f0
          have j1 := (hb2.frozen (p := ⟨w.heap.size, 1, none⟩) hy1).trans f1
          have j2 := (hb2.frozen (p := ⟨w.heap.size, 2, none⟩) hy1).trans f2
          have hy2 : w.heap.size < wr.heap.size := by omega
          have hlen : ar.length = 1 := by rw [har.out]; rfl
          have hli : (ar.length : Int) = 1 := by omega
          obtain ⟨g, o, rfl, hgg, hgc⟩ := HCE.out (by omega)
          have G0 : ar[0]'(by omega) = (k0, n0, s0) := by simp only [har.out]; rfl
          obtain ⟨c00, c01, c02⟩ := hgc 0 (by omega)
          rw [G0] at c00 c01 c02
          have x00 := (bw2.cell (p := ⟨g, o + 0 * 3, none⟩) hgg).trans c00
          have x01 := (bw2.cell (p := ⟨g, o + 0 * 3 + 1, none⟩) hgg).trans c01
          have x02 := (bw2.cell (p := ⟨g, o + 0 * 3 + 2, none⟩) hgg).trans c02
          simp only [Nat.zero_mul, Nat.add_zero, Nat.one_mul, (by decide : 2 * 3 = 6)] at x00 x01 x02
          clear c00 c01 c02 G0
          have hgw : g < wr.heap.size := by have := bw2.size; omega
          clear hgc hcells HCE hsz b1 hb2 q0 q1 q2 f0 f1 f2 HR0
          have hn0 : ¬ n0 < 0 := by omega
          go_wp2
          refine bodyPost_ret (v := tV k0 n0 s0 0) (by simp [results, Tryz.results33, go_sem, tV, p0, p1, p2, j0, j1, j2, hy2]) rfl ⟨rfl, ?_⟩
          exact (by (go_light; repeat (first | with_reducible assumption | with_reducible exact Below.refl _ _ | (with_reducible refine Below.setCell ?_ ?_ _; rotate_left; (focus first | (simp; done) | (simp; omega) | omega)) | (with_reducible refine Below.alloc ?_ ?_ _; rotate_left; (focus first | (simp; done) | (simp; omega) | omega)) | with_reducible refine Below.drew ?_)))

set_option maxHeartbeats 16000000 in
theorem callS_abs_neg (k0 n0 : Int) (s0 : ByteArray) (ar : List TA) (a : Option Addr) (cap : Nat) (w : World) (h8 : ar.length ≤ 8) (hr : RVO w (.slice a ar.length cap) ar) (hsz : ∀ t ∈ ar, t.2.2.size ≤ 1048576) (hv : Hid (∀ t ∈ ar, vok t.1 t.2.1 t.2.2 = true)) (hck : Hid (¬ Mp.ckK 1 (kindsA ar) < 0)) (hnn : Hid (∀ t ∈ ar, (t.1 == 0) = false)) (har : Hid (ar = [(k0, n0, s0)])) (hn : n0 < 0) (hs : s0.size ≤ 1048576) (wn : (Lit.int .i64 n0).wf = true) (r1 r2 r3 : Int) (hun : Hid (unR 17 k0 n0 (Ok.opk 17 k0 0) (vok k0 n0 s0) = (r1, r2, r3))) :
    Calls Tryz.prog 33 #[.int .i64 1, .slice a ar.length cap] w fun e w' => e = .returned (tV r1 r2 ⟨#[]⟩ r3) ∧ Below w.heap.size w w' := by
  obtain ⟨i0, hi, hz0, hz1, hz2⟩ := info_parts info3
  have hrr := hr
  obtain ⟨a', cap', hsl, hcells⟩ := hr
  simp only [Value.slice.injEq] at hsl
  obtain ⟨rfl, _, rfl⟩ := hsl
  have h8i : ¬ (8 : Int) < ar.length := by omega
  have bw0 := below_alloc w (.cells #[.int .i64 0, .int .i64 0, .string ⟨#[]⟩] 29)
  have HCE : Hid _ := hcells
  clear hrr
  go_enter Tryz.func33, Tryz.ntmps33
  go_wp2
  generalize hW0 : w.alloc (.cells #[.int .i64 0, .int .i64 0, .string ⟨#[]⟩] 29) = W0 at *
  have hsE : W0.heap.size = w.heap.size + 1 := by rw [← hW0]; simp
  have HSE : Hid _ := hsE
  have hs0 : w.heap.size < W0.heap.size := by omega
  clear hsE
  have r0 : W0.cell? ⟨w.heap.size, 0, none⟩ = some (.int .i64 0) ∧ W0.cell? ⟨w.heap.size, 1, none⟩ = some (.int .i64 0) ∧ W0.cell? ⟨w.heap.size, 2, none⟩ = some (.string ⟨#[]⟩) ∧ W0.frozen? ⟨w.heap.size, 0, none⟩ = false ∧ W0.frozen? ⟨w.heap.size, 1, none⟩ = false ∧ W0.frozen? ⟨w.heap.size, 2, none⟩ = false := by
    rw [← hW0]; simp [go_sem]
  have HR0 : Hid _ := r0
  have HB0 : Hid (Below w.heap.size w W0) := bw0
  clear r0 bw0 hW0
  go_loopw [6, 8, 33] (fun kv _ i wr => ∃ k : Nat, k ≤ ar.length ∧ i = .int .i64 k ∧ OwnK W0.heap.size kv k (kindsA (ar.take k)) wr ∧ Below W0.heap.size W0 wr) (fun _ _ i _ => ar.length - (intOf i).toNat)
  case atStart =>
    refine ⟨0, Nat.zero_le _, rfl, ?_, (Below.refl _ _).alloc (Nat.le_refl _) _⟩
    rw [← HSE.out]
    exact World.ownsRow_made W0 #[] 0 (Nat.le_refl _) (by unfold maxLen; omega) (by simp)
  case round =>
    obtain ⟨k, hk, rfl, hoK, hbel⟩ := hrel
    have ho : wr.ownsRow W0.heap.size 3 1 _ k ((kindsA (ar.take k)).map (Value.int .i64)) := hoK
    clear hoK
    have hbs := hbel.size
    by_cases hlt : k < ar.length
    · have hlti : (k : Int) < ar.length := by omega
      obtain ⟨g, o, rfl, hgg, hgc⟩ := hcells (by omega)
      have bww : Below w.heap.size w wr := HB0.out.trans (hbel.mono (by omega))
      obtain ⟨c0, c1, c2⟩ := hgc k hlt
      have d0 := (bww.cell (p := ⟨g, o + k * 3, none⟩) hgg).trans c0
      have d1 := (bww.cell (p := ⟨g, o + k * 3 + 1, none⟩) hgg).trans c1
      have d2 := (bww.cell (p := ⟨g, o + k * 3 + 2, none⟩) hgg).trans c2
      have hsx := hsz ar[k] (List.getElem_mem hlt)
      have hvx := hv.out ar[k] (List.getElem_mem hlt)
      have HTK : Hid (ar.take (k + 1) = ar.take k ++ [ar[k]]) := take_snoc hlt
      clear c0 c1 c2 hgc hcells hsz HCE
      generalize ar[k] = t at *
      obtain ⟨tk, tn, ts⟩ := t
      simp only at d0 d1 d2 hsx
      have hVX := fun W => vok_spec tk tn ts W hsx
      rw [hvx] at hVX
      clear hvx
      go_wp2_with (first | (go_at_call 14; refine (hVX _).mono ?_; rintro e w1 ⟨rfl, hb1⟩; obtain ⟨hc1, hf1⟩ := bcell hb1; have hz1w : wr.heap.size < w1.heap.size := (by have := hb1.size; simp at this; omega); have bw1 : Below W0.heap.size W0 w1 := (hbel.alloc hbs _).trans (hb1.mono (by simp; omega)); have ho1 := own_below (ho.alloc _) hb1; have e0 : w1.cell? ⟨wr.heap.size, 0, none⟩ = some (.int .i64 tk) := (hc1 wr.heap.size 0 (by simp)).trans (by simp [go_sem])) | (at_builtin; refine wpList_append_own _ rfl (.tmp 41) (.tmp 44) 22 rfl W0.heap.size 3 i0 (.int .i64 0) 1 8 Tryz.underlying22 hi hz0 hz1 hz2 rfl (by decide) _ k ((kindsA (ar.take k)).map (Value.int .i64)) rfl (ho1.alloc _) ⟨w1.heap.size, 0, none⟩ 1 1 [.int .i64 tk] rfl rfl (cell_one_new _ _ _) (by intro u hu; simp at hu; subst hu; rfl) (by unfold maxLen; omega) (by omega) (by have := bw1.size; simp; omega) ?_; intro v' w2 hown' hgrow _; have bw2 : Below W0.heap.size W0 w2 := (bw1.alloc bw1.size _).grown hgrow (by have := bw1.size; simp; omega) (fun j hj => (ho1.lt j hj).1); have HOW : Hid (OwnK W0.heap.size v' (k + 1) (kindsA (ar.take (k + 1))) w2) := OwnK.of HTK.out hown'; clear hown' hgrow))
      go_roundw
      case rel => exact ⟨k + 1, by omega, by go_num, HOW.out, bw2⟩
      case measure => simp [intOf]; omega
    · have hkn : k = ar.length := by omega
      subst hkn
      have hlti : ¬ (ar.length : Int) < ar.length := by omega
      rw [List.take_length] at ho
      have hkl : (kindsA ar).length = ar.length := by simp [kindsA]
      rw [← hkl] at ho
      obtain ⟨ka, kc, rfl, hrio⟩ := own_rio ho
      clear ho
      have hck' := hck.out
      generalize hks : kindsA ar = ks at *
      have HKL : Hid (ks.length = ar.length) := hkl
      have bww : Below w.heap.size w wr := HB0.out.trans (hbel.mono (by omega))
      obtain ⟨q0, q1, q2, f0, f1, f2⟩ := HR0.out
      have hwr : w.heap.size < wr.heap.size := by omega
      have hn20 : ks.length ≤ 1048576 := by rw [hkl]; omega
      clear hkl hks HB0
      go_wp2_with (go_at_call 9; fail)
      have hKS := fun W h => Mp.callKind_spec 1 ks ka kc W hn20 h
      generalize Mp.ckK 1 ks = ck at *
      refine (hKS _ hrio).mono ?_
      rintro e w1 ⟨rfl, hb1⟩
      have b1 : Below W0.heap.size W0 w1 := hbel.trans (hb1.mono hbs)
      have hs1 := b1.size
      have bw1 : Below w.heap.size w w1 := bww.trans (hb1.mono bww.size)
      clear hKS hrio hbel hb1 bww
      have q0 := (b1.cell (p := ⟨w.heap.size, 0, none⟩) hs0).trans q0
      have q1 := (b1.cell (p := ⟨w.heap.size, 1, none⟩) hs0).trans q1
      have q2 := (b1.cell (p := ⟨w.heap.size, 2, none⟩) hs0).trans q2
      have f0 := (b1.frozen (p := ⟨w.heap.size, 0, none⟩) hs0).trans f0
      have f1 := (b1.frozen (p := ⟨w.heap.size, 1, none⟩) hs0).trans f1
      have f2 := (b1.frozen (p := ⟨w.heap.size, 2, none⟩) hs0).trans f2
      have hy1 : w.heap.size < w1.heap.size := by omega
      go_wp2
      go_loopw [13, 74] (fun _ i wr => ∃ k : Nat, k ≤ ar.length ∧ i = .int .i64 k ∧ Below w1.heap.size w1 wr) (fun _ i _ => ar.length - (intOf i).toNat)
      case atStart => exact ⟨0, Nat.zero_le _, rfl, Below.refl _ _⟩
      case round =>
        obtain ⟨k, hk2, rfl, hb2⟩ := hrel
        have hs2 := hb2.size
        have bw2 : Below w.heap.size w wr := bw1.trans (hb2.mono bw1.size)
        by_cases hlt : k < ar.length
        · have hlti : (k : Int) < ar.length := by omega
          obtain ⟨g, o, rfl, hgg, hgc⟩ := HCE.out (by omega)
          obtain ⟨c0, c1, c2⟩ := hgc k hlt
          have d0 := (bw2.cell (p := ⟨g, o + k * 3, none⟩) hgg).trans c0
          have d1 := (bw2.cell (p := ⟨g, o + k * 3 + 1, none⟩) hgg).trans c1
          have d2 := (bw2.cell (p := ⟨g, o + k * 3 + 2, none⟩) hgg).trans c2
          have hnz := hnn.out ar[k] (List.getElem_mem hlt)
          clear c0 c1 c2 hgc hcells HCE hsz
          generalize ar[k] = t at *
          obtain ⟨tk, tn, ts⟩ := t
          simp only at d0 d1 d2 hnz
          go_wp2
          go_roundw
          case rel => exact ⟨k + 1, by omega, by go_num, (by (go_light; repeat (first | with_reducible assumption | with_reducible exact Below.refl _ _ | (with_reducible refine Below.setCell ?_ ?_ _; rotate_left; (focus first | (simp; done) | (simp; omega) | omega)) | (with_reducible refine Below.alloc ?_ ?_ _; rotate_left; (focus first | (simp; done) | (simp; omega) | omega)) | with_reducible refine Below.drew ?_)))⟩
          case measure => simp [intOf]; omega
        · have hkn : k = ar.length := by omega
          subst hkn
          have hlti : ¬ (ar.length : Int) < ar.length := by omega
          have p0 := (hb2.cell (p := ⟨w.heap.size, 0, none⟩) hy1).trans q0
          have p1 := (hb2.cell (p := ⟨w.heap.size, 1, none⟩) hy1).trans q1
          have p2 := (hb2.cell (p := ⟨w.heap.size, 2, none⟩) hy1).trans q2
          have j0 := (hb2.frozen (p := ⟨w.heap.size, 0, none⟩) hy1).trans f0
          have j1 := (hb2.frozen (p := ⟨w.heap.size, 1, none⟩) hy1).trans f1
          have j2 := (hb2.frozen (p := ⟨w.heap.size, 2, none⟩) hy1).trans f2
          have hy2 : w.heap.size < wr.heap.size := by omega
          have hlen : ar.length = 1 := by rw [har.out]; rfl
          have hli : (ar.length : Int) = 1 := by omega
          obtain ⟨g, o, rfl, hgg, hgc⟩ := HCE.out (by omega)
          have G0 : ar[0]'(by omega) = (k0, n0, s0) := by simp only [har.out]; rfl
          obtain ⟨c00, c01, c02⟩ := hgc 0 (by omega)
          rw [G0] at c00 c01 c02
          have x00 := (bw2.cell (p := ⟨g, o + 0 * 3, none⟩) hgg).trans c00
          have x01 := (bw2.cell (p := ⟨g, o + 0 * 3 + 1, none⟩) hgg).trans c01
          have x02 := (bw2.cell (p := ⟨g, o + 0 * 3 + 2, none⟩) hgg).trans c02
          simp only [Nat.zero_mul, Nat.add_zero, Nat.one_mul, (by decide : 2 * 3 = 6)] at x00 x01 x02
          clear c00 c01 c02 G0
          have hgw : g < wr.heap.size := by have := bw2.size; omega
          clear hgc hcells HCE hsz b1 hb2 q0 q1 q2 f0 f1 f2 HR0
          have hU := fun W => unary_spec 17 k0 n0 s0 W hs wn
          rw [hun.out] at hU
          simp only [unV] at hU
          go_wp2_with (go_at_call 75; fail)
          refine (hU _).mono ?_
          rintro e w3 ⟨rfl, hb3⟩
          obtain ⟨hc3, hf3⟩ := bcell hb3
          have hz3 := hb3.size
          simp at hz3
          have hy3 : w.heap.size < w3.heap.size := by omega
          have bw3 : Below w.heap.size w w3 := Below.trans (by (go_light; repeat (first | with_reducible assumption | with_reducible exact Below.refl _ _ | (with_reducible refine Below.setCell ?_ ?_ _; rotate_left; (focus first | (simp; done) | (simp; omega) | omega)) | (with_reducible refine Below.alloc ?_ ?_ _; rotate_left; (focus first | (simp; done) | (simp; omega) | omega)) | with_reducible refine Below.drew ?_))) (hb3.mono (by simp; omega))
          have p0 : w3.cell? ⟨w.heap.size, 0, none⟩ = some (.int .i64 0) := (hc3 _ _ (by simp; omega)).trans (by simp [go_sem, p0, hy2])
          have p1 : w3.cell? ⟨w.heap.size, 1, none⟩ = some (.int .i64 0) := (hc3 _ _ (by simp; omega)).trans (by simp [go_sem, p1, hy2])
          have p2 : w3.cell? ⟨w.heap.size, 2, none⟩ = some (.string ⟨#[]⟩) := (hc3 _ _ (by simp; omega)).trans (by simp [go_sem, p2, hy2])
          have j0 : w3.frozen? ⟨w.heap.size, 0, none⟩ = false := (hf3 _ _ (by simp; omega)).trans (by simp [go_sem, j0, hy2])
          have j1 : w3.frozen? ⟨w.heap.size, 1, none⟩ = false := (hf3 _ _ (by simp; omega)).trans (by simp [go_sem, j1, hy2])
          have j2 : w3.frozen? ⟨w.heap.size, 2, none⟩ = false := (hf3 _ _ (by simp; omega)).trans (by simp [go_sem, j2, hy2])
          clear hb3 hc3 hf3 hU
          go_wp2
          refine bodyPost_ret (v := tV r1 r2 ⟨#[]⟩ r3) (by simp [results, Tryz.results33, go_sem, tV, p0, p1, p2, j0, j1, j2, hy2, hy3]) rfl ⟨rfl, ?_⟩
          exact (by (go_light; repeat (first | with_reducible assumption | with_reducible exact Below.refl _ _ | (with_reducible refine Below.setCell ?_ ?_ _; rotate_left; (focus first | (simp; done) | (simp; omega) | omega)) | (with_reducible refine Below.alloc ?_ ?_ _; rotate_left; (focus first | (simp; done) | (simp; omega) | omega)) | with_reducible refine Below.drew ?_)))

end Go.Proofs.YtdcdoeolaongkaaGreatDoor.Ca
namespace Go.Proofs.YtdcdoeolaongkaaGreatDoor.Ca
open Go.MapKept Go.ChangeMaps
open Go.ChangeShapes Go.WideShapes Go.ChangeAt Go.RowKit Go.Shelf
open Go.Proofs.YtdcdoeolaongkaaGreatDoor.Rd
set_option linter.unusedVariables false
set_option linter.unusedSimpArgs false
set_option maxRecDepth 100000
set_option maxHeartbeats 16000000 in
theorem callS_length (k0 n0 : Int) (s0 : ByteArray) (ar : List TA) (a : Option Addr) (cap : Nat) (w : World) (h8 : ar.length ≤ 8) (hr : RVO w (.slice a ar.length cap) ar) (hsz : ∀ t ∈ ar, t.2.2.size ≤ 1048576) (hv : Hid (∀ t ∈ ar, vok t.1 t.2.1 t.2.2 = true)) (hck : Hid (¬ Mp.ckK 2 (kindsA ar) < 0)) (hnn : Hid (∀ t ∈ ar, (t.1 == 0) = false)) (har : Hid (ar = [(k0, n0, s0)])) (hs : s0.size ≤ 1048576) (cs : List Int) (hcs : Hid (chars s0 = some cs)) (m : Nat) (hm : Hid (cs.length = m)) :
    Calls Tryz.prog 33 #[.int .i64 2, .slice a ar.length cap] w fun e w' => e = .returned (tV 1 m ⟨#[]⟩ 0) ∧ Below w.heap.size w w' := by
  obtain ⟨i0, hi, hz0, hz1, hz2⟩ := info_parts info3
  have hrr := hr
  obtain ⟨a', cap', hsl, hcells⟩ := hr
  simp only [Value.slice.injEq] at hsl
  obtain ⟨rfl, _, rfl⟩ := hsl
  have h8i : ¬ (8 : Int) < ar.length := by omega
  have bw0 := below_alloc w (.cells #[.int .i64 0, .int .i64 0, .string ⟨#[]⟩] 29)
  have HCE : Hid _ := hcells
  clear hrr
  go_enter Tryz.func33, Tryz.ntmps33
  go_wp2
  generalize hW0 : w.alloc (.cells #[.int .i64 0, .int .i64 0, .string ⟨#[]⟩] 29) = W0 at *
  have hsE : W0.heap.size = w.heap.size + 1 := by rw [← hW0]; simp
  have HSE : Hid _ := hsE
  have hs0 : w.heap.size < W0.heap.size := by omega
  clear hsE
  have r0 : W0.cell? ⟨w.heap.size, 0, none⟩ = some (.int .i64 0) ∧ W0.cell? ⟨w.heap.size, 1, none⟩ = some (.int .i64 0) ∧ W0.cell? ⟨w.heap.size, 2, none⟩ = some (.string ⟨#[]⟩) ∧ W0.frozen? ⟨w.heap.size, 0, none⟩ = false ∧ W0.frozen? ⟨w.heap.size, 1, none⟩ = false ∧ W0.frozen? ⟨w.heap.size, 2, none⟩ = false := by
    rw [← hW0]; simp [go_sem]
  have HR0 : Hid _ := r0
  have HB0 : Hid (Below w.heap.size w W0) := bw0
  clear r0 bw0 hW0
  go_loopw [6, 8, 33] (fun kv _ i wr => ∃ k : Nat, k ≤ ar.length ∧ i = .int .i64 k ∧ OwnK W0.heap.size kv k (kindsA (ar.take k)) wr ∧ Below W0.heap.size W0 wr) (fun _ _ i _ => ar.length - (intOf i).toNat)
  case atStart =>
    refine ⟨0, Nat.zero_le _, rfl, ?_, (Below.refl _ _).alloc (Nat.le_refl _) _⟩
    rw [← HSE.out]
    exact World.ownsRow_made W0 #[] 0 (Nat.le_refl _) (by unfold maxLen; omega) (by simp)
  case round =>
    obtain ⟨k, hk, rfl, hoK, hbel⟩ := hrel
    have ho : wr.ownsRow W0.heap.size 3 1 _ k ((kindsA (ar.take k)).map (Value.int .i64)) := hoK
    clear hoK
    have hbs := hbel.size
    by_cases hlt : k < ar.length
    · have hlti : (k : Int) < ar.length := by omega
      obtain ⟨g, o, rfl, hgg, hgc⟩ := hcells (by omega)
      have bww : Below w.heap.size w wr := HB0.out.trans (hbel.mono (by omega))
      obtain ⟨c0, c1, c2⟩ := hgc k hlt
      have d0 := (bww.cell (p := ⟨g, o + k * 3, none⟩) hgg).trans c0
      have d1 := (bww.cell (p := ⟨g, o + k * 3 + 1, none⟩) hgg).trans c1
      have d2 := (bww.cell (p := ⟨g, o + k * 3 + 2, none⟩) hgg).trans c2
      have hsx := hsz ar[k] (List.getElem_mem hlt)
      have hvx := hv.out ar[k] (List.getElem_mem hlt)
      have HTK : Hid (ar.take (k + 1) = ar.take k ++ [ar[k]]) := take_snoc hlt
      clear c0 c1 c2 hgc hcells hsz HCE
      generalize ar[k] = t at *
      obtain ⟨tk, tn, ts⟩ := t
      simp only at d0 d1 d2 hsx
      have hVX := fun W => vok_spec tk tn ts W hsx
      rw [hvx] at hVX
      clear hvx
      go_wp2_with (first | (go_at_call 14; refine (hVX _).mono ?_; rintro e w1 ⟨rfl, hb1⟩; obtain ⟨hc1, hf1⟩ := bcell hb1; have hz1w : wr.heap.size < w1.heap.size := (by have := hb1.size; simp at this; omega); have bw1 : Below W0.heap.size W0 w1 := (hbel.alloc hbs _).trans (hb1.mono (by simp; omega)); have ho1 := own_below (ho.alloc _) hb1; have e0 : w1.cell? ⟨wr.heap.size, 0, none⟩ = some (.int .i64 tk) := (hc1 wr.heap.size 0 (by simp)).trans (by simp [go_sem])) | (at_builtin; refine wpList_append_own _ rfl (.tmp 41) (.tmp 44) 22 rfl W0.heap.size 3 i0 (.int .i64 0) 1 8 Tryz.underlying22 hi hz0 hz1 hz2 rfl (by decide) _ k ((kindsA (ar.take k)).map (Value.int .i64)) rfl (ho1.alloc _) ⟨w1.heap.size, 0, none⟩ 1 1 [.int .i64 tk] rfl rfl (cell_one_new _ _ _) (by intro u hu; simp at hu; subst hu; rfl) (by unfold maxLen; omega) (by omega) (by have := bw1.size; simp; omega) ?_; intro v' w2 hown' hgrow _; have bw2 : Below W0.heap.size W0 w2 := (bw1.alloc bw1.size _).grown hgrow (by have := bw1.size; simp; omega) (fun j hj => (ho1.lt j hj).1); have HOW : Hid (OwnK W0.heap.size v' (k + 1) (kindsA (ar.take (k + 1))) w2) := OwnK.of HTK.out hown'; clear hown' hgrow))
      go_roundw
      case rel => exact ⟨k + 1, by omega, by go_num, HOW.out, bw2⟩
      case measure => simp [intOf]; omega
    · have hkn : k = ar.length := by omega
      subst hkn
      have hlti : ¬ (ar.length : Int) < ar.length := by omega
      rw [List.take_length] at ho
      have hkl : (kindsA ar).length = ar.length := by simp [kindsA]
      rw [← hkl] at ho
      obtain ⟨ka, kc, rfl, hrio⟩ := own_rio ho
      clear ho
      have hck' := hck.out
      generalize hks : kindsA ar = ks at *
      have HKL : Hid (ks.length = ar.length) := hkl
      have bww : Below w.heap.size w wr := HB0.out.trans (hbel.mono (by omega))
      obtain ⟨q0, q1, q2, f0, f1, f2⟩ := HR0.out
      have hwr : w.heap.size < wr.heap.size := by omega
      have hn20 : ks.length ≤ 1048576 := by rw [hkl]; omega
      clear hkl hks HB0
      go_wp2_with (go_at_call 9; fail)
      have hKS := fun W h => Mp.callKind_spec 2 ks ka kc W hn20 h
      generalize Mp.ckK 2 ks = ck at *
      refine (hKS _ hrio).mono ?_
      rintro e w1 ⟨rfl, hb1⟩
      have b1 : Below W0.heap.size W0 w1 := hbel.trans (hb1.mono hbs)
      have hs1 := b1.size
      have bw1 : Below w.heap.size w w1 := bww.trans (hb1.mono bww.size)
      clear hKS hrio hbel hb1 bww
      have q0 := (b1.cell (p := ⟨w.heap.size, 0, none⟩) hs0).trans q0
      have q1 := (b1.cell (p := ⟨w.heap.size, 1, none⟩) hs0).trans q1
      have q2 := (b1.cell (p := ⟨w.heap.size, 2, none⟩) hs0).trans q2
      have f0 := (b1.frozen (p := ⟨w.heap.size, 0, none⟩) hs0).trans f0
      have f1 := (b1.frozen (p := ⟨w.heap.size, 1, none⟩) hs0).trans f1
      have f2 := (b1.frozen (p := ⟨w.heap.size, 2, none⟩) hs0).trans f2
      have hy1 : w.heap.size < w1.heap.size := by omega
      go_wp2
      go_loopw [13, 74] (fun _ i wr => ∃ k : Nat, k ≤ ar.length ∧ i = .int .i64 k ∧ Below w1.heap.size w1 wr) (fun _ i _ => ar.length - (intOf i).toNat)
      case atStart => exact ⟨0, Nat.zero_le _, rfl, Below.refl _ _⟩
      case round =>
        obtain ⟨k, hk2, rfl, hb2⟩ := hrel
        have hs2 := hb2.size
        have bw2 : Below w.heap.size w wr := bw1.trans (hb2.mono bw1.size)
        by_cases hlt : k < ar.length
        · have hlti : (k : Int) < ar.length := by omega
          obtain ⟨g, o, rfl, hgg, hgc⟩ := HCE.out (by omega)
          obtain ⟨c0, c1, c2⟩ := hgc k hlt
          have d0 := (bw2.cell (p := ⟨g, o + k * 3, none⟩) hgg).trans c0
          have d1 := (bw2.cell (p := ⟨g, o + k * 3 + 1, none⟩) hgg).trans c1
          have d2 := (bw2.cell (p := ⟨g, o + k * 3 + 2, none⟩) hgg).trans c2
          have hnz := hnn.out ar[k] (List.getElem_mem hlt)
          clear c0 c1 c2 hgc hcells HCE hsz
          generalize ar[k] = t at *
          obtain ⟨tk, tn, ts⟩ := t
          simp only at d0 d1 d2 hnz
          go_wp2
          go_roundw
          case rel => exact ⟨k + 1, by omega, by go_num, (by (go_light; repeat (first | with_reducible assumption | with_reducible exact Below.refl _ _ | (with_reducible refine Below.setCell ?_ ?_ _; rotate_left; (focus first | (simp; done) | (simp; omega) | omega)) | (with_reducible refine Below.alloc ?_ ?_ _; rotate_left; (focus first | (simp; done) | (simp; omega) | omega)) | with_reducible refine Below.drew ?_)))⟩
          case measure => simp [intOf]; omega
        · have hkn : k = ar.length := by omega
          subst hkn
          have hlti : ¬ (ar.length : Int) < ar.length := by omega
          have p0 := (hb2.cell (p := ⟨w.heap.size, 0, none⟩) hy1).trans q0
          have p1 := (hb2.cell (p := ⟨w.heap.size, 1, none⟩) hy1).trans q1
          have p2 := (hb2.cell (p := ⟨w.heap.size, 2, none⟩) hy1).trans q2
          have j0 := (hb2.frozen (p := ⟨w.heap.size, 0, none⟩) hy1).trans f0
          have j1 := (hb2.frozen (p := ⟨w.heap.size, 1, none⟩) hy1).trans f1
          have j2 := (hb2.frozen (p := ⟨w.heap.size, 2, none⟩) hy1).trans f2
          have hy2 : w.heap.size < wr.heap.size := by omega
          have hlen : ar.length = 1 := by rw [har.out]; rfl
          have hli : (ar.length : Int) = 1 := by omega
          obtain ⟨g, o, rfl, hgg, hgc⟩ := HCE.out (by omega)
          have G0 : ar[0]'(by omega) = (k0, n0, s0) := by simp only [har.out]; rfl
          obtain ⟨c00, c01, c02⟩ := hgc 0 (by omega)
          rw [G0] at c00 c01 c02
          have x00 := (bw2.cell (p := ⟨g, o + 0 * 3, none⟩) hgg).trans c00
          have x01 := (bw2.cell (p := ⟨g, o + 0 * 3 + 1, none⟩) hgg).trans c01
          have x02 := (bw2.cell (p := ⟨g, o + 0 * 3 + 2, none⟩) hgg).trans c02
          simp only [Nat.zero_mul, Nat.add_zero, Nat.one_mul, (by decide : 2 * 3 = 6)] at x00 x01 x02
          clear c00 c01 c02 G0
          have hgw : g < wr.heap.size := by have := bw2.size; omega
          clear hgc hcells HCE hsz b1 hb2 q0 q1 q2 f0 f1 f2 HR0
          go_wp2_with (go_at_call 42; fail)
          refine (chars_any s0 _ hs).mono ?_
          intro e w3 hP
          obtain ⟨v, rfl, hown, hb3⟩ := hP.get hcs.out
          obtain ⟨va, vc, rfl, _⟩ := owns_cells hown
          obtain ⟨hc3, hf3⟩ := bcell hb3
          have hz3 := hb3.size
          simp at hz3
          have hy3 : w.heap.size < w3.heap.size := by omega
          have bw3 : Below w.heap.size w w3 := Below.trans (by (go_light; repeat (first | with_reducible assumption | with_reducible exact Below.refl _ _ | (with_reducible refine Below.setCell ?_ ?_ _; rotate_left; (focus first | (simp; done) | (simp; omega) | omega)) | (with_reducible refine Below.alloc ?_ ?_ _; rotate_left; (focus first | (simp; done) | (simp; omega) | omega)) | with_reducible refine Below.drew ?_))) (hb3.mono (by simp; omega))
          have p0 : w3.cell? ⟨w.heap.size, 0, none⟩ = some (.int .i64 0) := (hc3 _ _ (by simp; omega)).trans (by simp [go_sem, p0, hy2])
          have p1 : w3.cell? ⟨w.heap.size, 1, none⟩ = some (.int .i64 0) := (hc3 _ _ (by simp; omega)).trans (by simp [go_sem, p1, hy2])
          have p2 : w3.cell? ⟨w.heap.size, 2, none⟩ = some (.string ⟨#[]⟩) := (hc3 _ _ (by simp; omega)).trans (by simp [go_sem, p2, hy2])
          have j0 : w3.frozen? ⟨w.heap.size, 0, none⟩ = false := (hf3 _ _ (by simp; omega)).trans (by simp [go_sem, j0, hy2])
          have j1 : w3.frozen? ⟨w.heap.size, 1, none⟩ = false := (hf3 _ _ (by simp; omega)).trans (by simp [go_sem, j1, hy2])
          have j2 : w3.frozen? ⟨w.heap.size, 2, none⟩ = false := (hf3 _ _ (by simp; omega)).trans (by simp [go_sem, j2, hy2])
          clear hb3 hc3 hf3 hP hown
          rw [hm.out]
          go_wp2
          refine bodyPost_ret (v := tV 1 m ⟨#[]⟩ 0) (by simp [results, Tryz.results33, go_sem, tV, p0, p1, p2, j0, j1, j2, hy2, hy3]) rfl ⟨rfl, ?_⟩
          exact (by (go_light; repeat (first | with_reducible assumption | with_reducible exact Below.refl _ _ | (with_reducible refine Below.setCell ?_ ?_ _; rotate_left; (focus first | (simp; done) | (simp; omega) | omega)) | (with_reducible refine Below.alloc ?_ ?_ _; rotate_left; (focus first | (simp; done) | (simp; omega) | omega)) | with_reducible refine Below.drew ?_)))

set_option maxHeartbeats 16000000 in
theorem callS_round (k0 n0 : Int) (s0 : ByteArray) (ar : List TA) (a : Option Addr) (cap : Nat) (w : World) (h8 : ar.length ≤ 8) (hr : RVO w (.slice a ar.length cap) ar) (hsz : ∀ t ∈ ar, t.2.2.size ≤ 1048576) (hv : Hid (∀ t ∈ ar, vok t.1 t.2.1 t.2.2 = true)) (hck : Hid (¬ Mp.ckK 10 (kindsA ar) < 0)) (hnn : Hid (∀ t ∈ ar, (t.1 == 0) = false)) (har : Hid (ar = [(k0, n0, s0)])) (h1 : -999999999999999999 ≤ n0) (h2 : n0 ≤ 999999999999999999) (r : Int) (hrr : Hid (rndI n0 = r)) (g1 : ¬ 99999999999999 < r) (g2 : ¬ r < -99999999999999) :
    Calls Tryz.prog 33 #[.int .i64 10, .slice a ar.length cap] w fun e w' => e = .returned (tV 2 (r * 10000) ⟨#[]⟩ 0) ∧ Below w.heap.size w w' := by
  obtain ⟨i0, hi, hz0, hz1, hz2⟩ := info_parts info3
  have hrr := hr
  obtain ⟨a', cap', hsl, hcells⟩ := hr
  simp only [Value.slice.injEq] at hsl
  obtain ⟨rfl, _, rfl⟩ := hsl
  have h8i : ¬ (8 : Int) < ar.length := by omega
  have bw0 := below_alloc w (.cells #[.int .i64 0, .int .i64 0, .string ⟨#[]⟩] 29)
  have HCE : Hid _ := hcells
  clear hrr
  go_enter Tryz.func33, Tryz.ntmps33
  go_wp2
  generalize hW0 : w.alloc (.cells #[.int .i64 0, .int .i64 0, .string ⟨#[]⟩] 29) = W0 at *
  have hsE : W0.heap.size = w.heap.size + 1 := by rw [← hW0]; simp
  have HSE : Hid _ := hsE
  have hs0 : w.heap.size < W0.heap.size := by omega
  clear hsE
  have r0 : W0.cell? ⟨w.heap.size, 0, none⟩ = some (.int .i64 0) ∧ W0.cell? ⟨w.heap.size, 1, none⟩ = some (.int .i64 0) ∧ W0.cell? ⟨w.heap.size, 2, none⟩ = some (.string ⟨#[]⟩) ∧ W0.frozen? ⟨w.heap.size, 0, none⟩ = false ∧ W0.frozen? ⟨w.heap.size, 1, none⟩ = false ∧ W0.frozen? ⟨w.heap.size, 2, none⟩ = false := by
    rw [← hW0]; simp [go_sem]
  have HR0 : Hid _ := r0
  have HB0 : Hid (Below w.heap.size w W0) := bw0
  clear r0 bw0 hW0
  go_loopw [6, 8, 33] (fun kv _ i wr => ∃ k : Nat, k ≤ ar.length ∧ i = .int .i64 k ∧ OwnK W0.heap.size kv k (kindsA (ar.take k)) wr ∧ Below W0.heap.size W0 wr) (fun _ _ i _ => ar.length - (intOf i).toNat)
  case atStart =>
    refine ⟨0, Nat.zero_le _, rfl, ?_, (Below.refl _ _).alloc (Nat.le_refl _) _⟩
    rw [← HSE.out]
    exact World.ownsRow_made W0 #[] 0 (Nat.le_refl _) (by unfold maxLen; omega) (by simp)
  case round =>
    obtain ⟨k, hk, rfl, hoK, hbel⟩ := hrel
    have ho : wr.ownsRow W0.heap.size 3 1 _ k ((kindsA (ar.take k)).map (Value.int .i64)) := hoK
    clear hoK
    have hbs := hbel.size
    by_cases hlt : k < ar.length
    · have hlti : (k : Int) < ar.length := by omega
      obtain ⟨g, o, rfl, hgg, hgc⟩ := hcells (by omega)
      have bww : Below w.heap.size w wr := HB0.out.trans (hbel.mono (by omega))
      obtain ⟨c0, c1, c2⟩ := hgc k hlt
      have d0 := (bww.cell (p := ⟨g, o + k * 3, none⟩) hgg).trans c0
      have d1 := (bww.cell (p := ⟨g, o + k * 3 + 1, none⟩) hgg).trans c1
      have d2 := (bww.cell (p := ⟨g, o + k * 3 + 2, none⟩) hgg).trans c2
      have hsx := hsz ar[k] (List.getElem_mem hlt)
      have hvx := hv.out ar[k] (List.getElem_mem hlt)
      have HTK : Hid (ar.take (k + 1) = ar.take k ++ [ar[k]]) := take_snoc hlt
      clear c0 c1 c2 hgc hcells hsz HCE
      generalize ar[k] = t at *
      obtain ⟨tk, tn, ts⟩ := t
      simp only at d0 d1 d2 hsx
      have hVX := fun W => vok_spec tk tn ts W hsx
      rw [hvx] at hVX
      clear hvx
      go_wp2_with (first | (go_at_call 14; refine (hVX _).mono ?_; rintro e w1 ⟨rfl, hb1⟩; obtain ⟨hc1, hf1⟩ := bcell hb1; have hz1w : wr.heap.size < w1.heap.size := (by have := hb1.size; simp at this; omega); have bw1 : Below W0.heap.size W0 w1 := (hbel.alloc hbs _).trans (hb1.mono (by simp; omega)); have ho1 := own_below (ho.alloc _) hb1; have e0 : w1.cell? ⟨wr.heap.size, 0, none⟩ = some (.int .i64 tk) := (hc1 wr.heap.size 0 (by simp)).trans (by simp [go_sem])) | (at_builtin; refine wpList_append_own _ rfl (.tmp 41) (.tmp 44) 22 rfl W0.heap.size 3 i0 (.int .i64 0) 1 8 Tryz.underlying22 hi hz0 hz1 hz2 rfl (by decide) _ k ((kindsA (ar.take k)).map (Value.int .i64)) rfl (ho1.alloc _) ⟨w1.heap.size, 0, none⟩ 1 1 [.int .i64 tk] rfl rfl (cell_one_new _ _ _) (by intro u hu; simp at hu; subst hu; rfl) (by unfold maxLen; omega) (by omega) (by have := bw1.size; simp; omega) ?_; intro v' w2 hown' hgrow _; have bw2 : Below W0.heap.size W0 w2 := (bw1.alloc bw1.size _).grown hgrow (by have := bw1.size; simp; omega) (fun j hj => (ho1.lt j hj).1); have HOW : Hid (OwnK W0.heap.size v' (k + 1) (kindsA (ar.take (k + 1))) w2) := OwnK.of HTK.out hown'; clear hown' hgrow))
      go_roundw
      case rel => exact ⟨k + 1, by omega, by go_num, HOW.out, bw2⟩
      case measure => simp [intOf]; omega
    · have hkn : k = ar.length := by omega
      subst hkn
      have hlti : ¬ (ar.length : Int) < ar.length := by omega
      rw [List.take_length] at ho
      have hkl : (kindsA ar).length = ar.length := by simp [kindsA]
      rw [← hkl] at ho
      obtain ⟨ka, kc, rfl, hrio⟩ := own_rio ho
      clear ho
      have hck' := hck.out
      generalize hks : kindsA ar = ks at *
      have HKL : Hid (ks.length = ar.length) := hkl
      have bww : Below w.heap.size w wr := HB0.out.trans (hbel.mono (by omega))
      obtain ⟨q0, q1, q2, f0, f1, f2⟩ := HR0.out
      have hwr : w.heap.size < wr.heap.size := by omega
      have hn20 : ks.length ≤ 1048576 := by rw [hkl]; omega
      clear hkl hks HB0
      go_wp2_with (go_at_call 9; fail)
      have hKS := fun W h => Mp.callKind_spec 10 ks ka kc W hn20 h
      generalize Mp.ckK 10 ks = ck at *
      refine (hKS _ hrio).mono ?_
      rintro e w1 ⟨rfl, hb1⟩
      have b1 : Below W0.heap.size W0 w1 := hbel.trans (hb1.mono hbs)
      have hs1 := b1.size
      have bw1 : Below w.heap.size w w1 := bww.trans (hb1.mono bww.size)
      clear hKS hrio hbel hb1 bww
      have q0 := (b1.cell (p := ⟨w.heap.size, 0, none⟩) hs0).trans q0
      have q1 := (b1.cell (p := ⟨w.heap.size, 1, none⟩) hs0).trans q1
      have q2 := (b1.cell (p := ⟨w.heap.size, 2, none⟩) hs0).trans q2
      have f0 := (b1.frozen (p := ⟨w.heap.size, 0, none⟩) hs0).trans f0
      have f1 := (b1.frozen (p := ⟨w.heap.size, 1, none⟩) hs0).trans f1
      have f2 := (b1.frozen (p := ⟨w.heap.size, 2, none⟩) hs0).trans f2
      have hy1 : w.heap.size < w1.heap.size := by omega
      go_wp2
      go_loopw [13, 74] (fun _ i wr => ∃ k : Nat, k ≤ ar.length ∧ i = .int .i64 k ∧ Below w1.heap.size w1 wr) (fun _ i _ => ar.length - (intOf i).toNat)
      case atStart => exact ⟨0, Nat.zero_le _, rfl, Below.refl _ _⟩
      case round =>
        obtain ⟨k, hk2, rfl, hb2⟩ := hrel
        have hs2 := hb2.size
        have bw2 : Below w.heap.size w wr := bw1.trans (hb2.mono bw1.size)
        by_cases hlt : k < ar.length
        · have hlti : (k : Int) < ar.length := by omega
          obtain ⟨g, o, rfl, hgg, hgc⟩ := HCE.out (by omega)
          obtain ⟨c0, c1, c2⟩ := hgc k hlt
          have d0 := (bw2.cell (p := ⟨g, o + k * 3, none⟩) hgg).trans c0
          have d1 := (bw2.cell (p := ⟨g, o + k * 3 + 1, none⟩) hgg).trans c1
          have d2 := (bw2.cell (p := ⟨g, o + k * 3 + 2, none⟩) hgg).trans c2
          have hnz := hnn.out ar[k] (List.getElem_mem hlt)
          clear c0 c1 c2 hgc hcells HCE hsz
          generalize ar[k] = t at *
          obtain ⟨tk, tn, ts⟩ := t
          simp only at d0 d1 d2 hnz
          go_wp2
          go_roundw
          case rel => exact ⟨k + 1, by omega, by go_num, (by (go_light; repeat (first | with_reducible assumption | with_reducible exact Below.refl _ _ | (with_reducible refine Below.setCell ?_ ?_ _; rotate_left; (focus first | (simp; done) | (simp; omega) | omega)) | (with_reducible refine Below.alloc ?_ ?_ _; rotate_left; (focus first | (simp; done) | (simp; omega) | omega)) | with_reducible refine Below.drew ?_)))⟩
          case measure => simp [intOf]; omega
        · have hkn : k = ar.length := by omega
          subst hkn
          have hlti : ¬ (ar.length : Int) < ar.length := by omega
          have p0 := (hb2.cell (p := ⟨w.heap.size, 0, none⟩) hy1).trans q0
          have p1 := (hb2.cell (p := ⟨w.heap.size, 1, none⟩) hy1).trans q1
          have p2 := (hb2.cell (p := ⟨w.heap.size, 2, none⟩) hy1).trans q2
          have j0 := (hb2.frozen (p := ⟨w.heap.size, 0, none⟩) hy1).trans f0
          have j1 := (hb2.frozen (p := ⟨w.heap.size, 1, none⟩) hy1).trans f1
          have j2 := (hb2.frozen (p := ⟨w.heap.size, 2, none⟩) hy1).trans f2
          have hy2 : w.heap.size < wr.heap.size := by omega
          have hlen : ar.length = 1 := by rw [har.out]; rfl
          have hli : (ar.length : Int) = 1 := by omega
          obtain ⟨g, o, rfl, hgg, hgc⟩ := HCE.out (by omega)
          have G0 : ar[0]'(by omega) = (k0, n0, s0) := by simp only [har.out]; rfl
          obtain ⟨c00, c01, c02⟩ := hgc 0 (by omega)
          rw [G0] at c00 c01 c02
          have x00 := (bw2.cell (p := ⟨g, o + 0 * 3, none⟩) hgg).trans c00
          have x01 := (bw2.cell (p := ⟨g, o + 0 * 3 + 1, none⟩) hgg).trans c01
          have x02 := (bw2.cell (p := ⟨g, o + 0 * 3 + 2, none⟩) hgg).trans c02
          simp only [Nat.zero_mul, Nat.add_zero, Nat.one_mul, (by decide : 2 * 3 = 6)] at x00 x01 x02
          clear c00 c01 c02 G0
          have hgw : g < wr.heap.size := by have := bw2.size; omega
          clear hgc hcells HCE hsz b1 hb2 q0 q1 q2 f0 f1 f2 HR0
          have hU := fun W => round_spec n0 W h1 h2
          rw [hrr.out] at hU
          go_wp2_with (go_at_call 66; fail)
          refine (hU _).mono ?_
          rintro e w3 ⟨rfl, rfl⟩
          have hmul : IntKind.i64.wrap (r * 10000) = r * 10000 := by simp only [IntKind.wrap_i64, wrap64]; omega
          go_wp2
          refine bodyPost_ret (v := tV 2 (r * 10000) ⟨#[]⟩ 0) (by simp [results, Tryz.results33, go_sem, tV, p0, p1, p2, j0, j1, j2, hy2]) rfl ⟨rfl, ?_⟩
          exact (by (go_light; repeat (first | with_reducible assumption | with_reducible exact Below.refl _ _ | (with_reducible refine Below.setCell ?_ ?_ _; rotate_left; (focus first | (simp; done) | (simp; omega) | omega)) | (with_reducible refine Below.alloc ?_ ?_ _; rotate_left; (focus first | (simp; done) | (simp; omega) | omega)) | with_reducible refine Below.drew ?_)))

set_option maxHeartbeats 16000000 in
theorem callS_round_no (k0 n0 : Int) (s0 : ByteArray) (ar : List TA) (a : Option Addr) (cap : Nat) (w : World) (h8 : ar.length ≤ 8) (hr : RVO w (.slice a ar.length cap) ar) (hsz : ∀ t ∈ ar, t.2.2.size ≤ 1048576) (hv : Hid (∀ t ∈ ar, vok t.1 t.2.1 t.2.2 = true)) (hck : Hid (¬ Mp.ckK 10 (kindsA ar) < 0)) (hnn : Hid (∀ t ∈ ar, (t.1 == 0) = false)) (har : Hid (ar = [(k0, n0, s0)])) (h1 : -999999999999999999 ≤ n0) (h2 : n0 ≤ 999999999999999999) (r : Int) (hrr : Hid (rndI n0 = r)) (g1 : 99999999999999 < r ∨ r < -99999999999999) :
    Calls Tryz.prog 33 #[.int .i64 10, .slice a ar.length cap] w fun e w' => e = .returned (tV 0 0 ⟨#[]⟩ 13) ∧ Below w.heap.size w w' := by
  obtain ⟨i0, hi, hz0, hz1, hz2⟩ := info_parts info3
  have hrr := hr
  obtain ⟨a', cap', hsl, hcells⟩ := hr
  simp only [Value.slice.injEq] at hsl
  obtain ⟨rfl, _, rfl⟩ := hsl
  have h8i : ¬ (8 : Int) < ar.length := by omega
  have bw0 := below_alloc w (.cells #[.int .i64 0, .int .i64 0, .string ⟨#[]⟩] 29)
  have HCE : Hid _ := hcells
  clear hrr
  go_enter Tryz.func33, Tryz.ntmps33
  go_wp2
  generalize hW0 : w.alloc (.cells #[.int .i64 0, .int .i64 0, .string ⟨#[]⟩] 29) = W0 at *
  have hsE : W0.heap.size = w.heap.size + 1 := by rw [← hW0]; simp
  have HSE : Hid _ := hsE
  have hs0 : w.heap.size < W0.heap.size := by omega
  clear hsE
  have r0 : W0.cell? ⟨w.heap.size, 0, none⟩ = some (.int .i64 0) ∧ W0.cell? ⟨w.heap.size, 1, none⟩ = some (.int .i64 0) ∧ W0.cell? ⟨w.heap.size, 2, none⟩ = some (.string ⟨#[]⟩) ∧ W0.frozen? ⟨w.heap.size, 0, none⟩ = false ∧ W0.frozen? ⟨w.heap.size, 1, none⟩ = false ∧ W0.frozen? ⟨w.heap.size, 2, none⟩ = false := by
    rw [← hW0]; simp [go_sem]
  have HR0 : Hid _ := r0
  have HB0 : Hid (Below w.heap.size w W0) := bw0
  clear r0 bw0 hW0
  go_loopw [6, 8, 33] (fun kv _ i wr => ∃ k : Nat, k ≤ ar.length ∧ i = .int .i64 k ∧ OwnK W0.heap.size kv k (kindsA (ar.take k)) wr ∧ Below W0.heap.size W0 wr) (fun _ _ i _ => ar.length - (intOf i).toNat)
  case atStart =>
    refine ⟨0, Nat.zero_le _, rfl, ?_, (Below.refl _ _).alloc (Nat.le_refl _) _⟩
    rw [← HSE.out]
    exact World.ownsRow_made W0 #[] 0 (Nat.le_refl _) (by unfold maxLen; omega) (by simp)
  case round =>
    obtain ⟨k, hk, rfl, hoK, hbel⟩ := hrel
    have ho : wr.ownsRow W0.heap.size 3 1 _ k ((kindsA (ar.take k)).map (Value.int .i64)) := hoK
    clear hoK
    have hbs := hbel.size
    by_cases hlt : k < ar.length
    · have hlti : (k : Int) < ar.length := by omega
      obtain ⟨g, o, rfl, hgg, hgc⟩ := hcells (by omega)
      have bww : Below w.heap.size w wr := HB0.out.trans (hbel.mono (by omega))
      obtain ⟨c0, c1, c2⟩ := hgc k hlt
      have d0 := (bww.cell (p := ⟨g, o + k * 3, none⟩) hgg).trans c0
      have d1 := (bww.cell (p := ⟨g, o + k * 3 + 1, none⟩) hgg).trans c1
      have d2 := (bww.cell (p := ⟨g, o + k * 3 + 2, none⟩) hgg).trans c2
      have hsx := hsz ar[k] (List.getElem_mem hlt)
      have hvx := hv.out ar[k] (List.getElem_mem hlt)
      have HTK : Hid (ar.take (k + 1) = ar.take k ++ [ar[k]]) := take_snoc hlt
      clear c0 c1 c2 hgc hcells hsz HCE
      generalize ar[k] = t at *
      obtain ⟨tk, tn, ts⟩ := t
      simp only at d0 d1 d2 hsx
      have hVX := fun W => vok_spec tk tn ts W hsx
      rw [hvx] at hVX
      clear hvx
      go_wp2_with (first | (go_at_call 14; refine (hVX _).mono ?_; rintro e w1 ⟨rfl, hb1⟩; obtain ⟨hc1, hf1⟩ := bcell hb1; have hz1w : wr.heap.size < w1.heap.size := (by have := hb1.size; simp at this; omega); have bw1 : Below W0.heap.size W0 w1 := (hbel.alloc hbs _).trans (hb1.mono (by simp; omega)); have ho1 := own_below (ho.alloc _) hb1; have e0 : w1.cell? ⟨wr.heap.size, 0, none⟩ = some (.int .i64 tk) := (hc1 wr.heap.size 0 (by simp)).trans (by simp [go_sem])) | (at_builtin; refine wpList_append_own _ rfl (.tmp 41) (.tmp 44) 22 rfl W0.heap.size 3 i0 (.int .i64 0) 1 8 Tryz.underlying22 hi hz0 hz1 hz2 rfl (by decide) _ k ((kindsA (ar.take k)).map (Value.int .i64)) rfl (ho1.alloc _) ⟨w1.heap.size, 0, none⟩ 1 1 [.int .i64 tk] rfl rfl (cell_one_new _ _ _) (by intro u hu; simp at hu; subst hu; rfl) (by unfold maxLen; omega) (by omega) (by have := bw1.size; simp; omega) ?_; intro v' w2 hown' hgrow _; have bw2 : Below W0.heap.size W0 w2 := (bw1.alloc bw1.size _).grown hgrow (by have := bw1.size; simp; omega) (fun j hj => (ho1.lt j hj).1); have HOW : Hid (OwnK W0.heap.size v' (k + 1) (kindsA (ar.take (k + 1))) w2) := OwnK.of HTK.out hown'; clear hown' hgrow))
      go_roundw
      case rel => exact ⟨k + 1, by omega, by go_num, HOW.out, bw2⟩
      case measure => simp [intOf]; omega
    · have hkn : k = ar.length := by omega
      subst hkn
      have hlti : ¬ (ar.length : Int) < ar.length := by omega
      rw [List.take_length] at ho
      have hkl : (kindsA ar).length = ar.length := by simp [kindsA]
      rw [← hkl] at ho
      obtain ⟨ka, kc, rfl, hrio⟩ := own_rio ho
      clear ho
      have hck' := hck.out
      generalize hks : kindsA ar = ks at *
      have HKL : Hid (ks.length = ar.length) := hkl
      have bww : Below w.heap.size w wr := HB0.out.trans (hbel.mono (by omega))
      obtain ⟨q0, q1, q2, f0, f1, f2⟩ := HR0.out
      have hwr : w.heap.size < wr.heap.size := by omega
      have hn20 : ks.length ≤ 1048576 := by rw [hkl]; omega
      clear hkl hks HB0
      go_wp2_with (go_at_call 9; fail)
      have hKS := fun W h => Mp.callKind_spec 10 ks ka kc W hn20 h
      generalize Mp.ckK 10 ks = ck at *
      refine (hKS _ hrio).mono ?_
      rintro e w1 ⟨rfl, hb1⟩
      have b1 : Below W0.heap.size W0 w1 := hbel.trans (hb1.mono hbs)
      have hs1 := b1.size
      have bw1 : Below w.heap.size w w1 := bww.trans (hb1.mono bww.size)
      clear hKS hrio hbel hb1 bww
      have q0 := (b1.cell (p := ⟨w.heap.size, 0, none⟩) hs0).trans q0
      have q1 := (b1.cell (p := ⟨w.heap.size, 1, none⟩) hs0).trans q1
      have q2 := (b1.cell (p := ⟨w.heap.size, 2, none⟩) hs0).trans q2
      have f0 := (b1.frozen (p := ⟨w.heap.size, 0, none⟩) hs0).trans f0
      have f1 := (b1.frozen (p := ⟨w.heap.size, 1, none⟩) hs0).trans f1
      have f2 := (b1.frozen (p := ⟨w.heap.size, 2, none⟩) hs0).trans f2
      have hy1 : w.heap.size < w1.heap.size := by omega
      go_wp2
      go_loopw [13, 74] (fun _ i wr => ∃ k : Nat, k ≤ ar.length ∧ i = .int .i64 k ∧ Below w1.heap.size w1 wr) (fun _ i _ => ar.length - (intOf i).toNat)
      case atStart => exact ⟨0, Nat.zero_le _, rfl, Below.refl _ _⟩
      case round =>
        obtain ⟨k, hk2, rfl, hb2⟩ := hrel
        have hs2 := hb2.size
        have bw2 : Below w.heap.size w wr := bw1.trans (hb2.mono bw1.size)
        by_cases hlt : k < ar.length
        · have hlti : (k : Int) < ar.length := by omega
          obtain ⟨g, o, rfl, hgg, hgc⟩ := HCE.out (by omega)
          obtain ⟨c0, c1, c2⟩ := hgc k hlt
          have d0 := (bw2.cell (p := ⟨g, o + k * 3, none⟩) hgg).trans c0
          have d1 := (bw2.cell (p := ⟨g, o + k * 3 + 1, none⟩) hgg).trans c1
          have d2 := (bw2.cell (p := ⟨g, o + k * 3 + 2, none⟩) hgg).trans c2
          have hnz := hnn.out ar[k] (List.getElem_mem hlt)
          clear c0 c1 c2 hgc hcells HCE hsz
          generalize ar[k] = t at *
          obtain ⟨tk, tn, ts⟩ := t
          simp only at d0 d1 d2 hnz
          go_wp2
          go_roundw
          case rel => exact ⟨k + 1, by omega, by go_num, (by (go_light; repeat (first | with_reducible assumption | with_reducible exact Below.refl _ _ | (with_reducible refine Below.setCell ?_ ?_ _; rotate_left; (focus first | (simp; done) | (simp; omega) | omega)) | (with_reducible refine Below.alloc ?_ ?_ _; rotate_left; (focus first | (simp; done) | (simp; omega) | omega)) | with_reducible refine Below.drew ?_)))⟩
          case measure => simp [intOf]; omega
        · have hkn : k = ar.length := by omega
          subst hkn
          have hlti : ¬ (ar.length : Int) < ar.length := by omega
          have p0 := (hb2.cell (p := ⟨w.heap.size, 0, none⟩) hy1).trans q0
          have p1 := (hb2.cell (p := ⟨w.heap.size, 1, none⟩) hy1).trans q1
          have p2 := (hb2.cell (p := ⟨w.heap.size, 2, none⟩) hy1).trans q2
          have j0 := (hb2.frozen (p := ⟨w.heap.size, 0, none⟩) hy1).trans f0
          have j1 := (hb2.frozen (p := ⟨w.heap.size, 1, none⟩) hy1).trans f1
          have j2 := (hb2.frozen (p := ⟨w.heap.size, 2, none⟩) hy1).trans f2
          have hy2 : w.heap.size < wr.heap.size := by omega
          have hlen : ar.length = 1 := by rw [har.out]; rfl
          have hli : (ar.length : Int) = 1 := by omega
          obtain ⟨g, o, rfl, hgg, hgc⟩ := HCE.out (by omega)
          have G0 : ar[0]'(by omega) = (k0, n0, s0) := by simp only [har.out]; rfl
          obtain ⟨c00, c01, c02⟩ := hgc 0 (by omega)
          rw [G0] at c00 c01 c02
          have x00 := (bw2.cell (p := ⟨g, o + 0 * 3, none⟩) hgg).trans c00
          have x01 := (bw2.cell (p := ⟨g, o + 0 * 3 + 1, none⟩) hgg).trans c01
          have x02 := (bw2.cell (p := ⟨g, o + 0 * 3 + 2, none⟩) hgg).trans c02
          simp only [Nat.zero_mul, Nat.add_zero, Nat.one_mul, (by decide : 2 * 3 = 6)] at x00 x01 x02
          clear c00 c01 c02 G0
          have hgw : g < wr.heap.size := by have := bw2.size; omega
          clear hgc hcells HCE hsz b1 hb2 q0 q1 q2 f0 f1 f2 HR0
          have hU := fun W => round_spec n0 W h1 h2
          rw [hrr.out] at hU
          rcases g1 with g1 | g1
          · go_wp2_with (go_at_call 66; fail)
            refine (hU _).mono ?_
            rintro e w3 ⟨rfl, rfl⟩
            go_wp2
            refine bodyPost_ret (v := tV 0 0 ⟨#[]⟩ 13) (by simp [results, Tryz.results33, go_sem, tV, p0, p1, p2, j0, j1, j2, hy2]) rfl ⟨rfl, ?_⟩
            exact (by (go_light; repeat (first | with_reducible assumption | with_reducible exact Below.refl _ _ | (with_reducible refine Below.setCell ?_ ?_ _; rotate_left; (focus first | (simp; done) | (simp; omega) | omega)) | (with_reducible refine Below.alloc ?_ ?_ _; rotate_left; (focus first | (simp; done) | (simp; omega) | omega)) | with_reducible refine Below.drew ?_)))
          · have g0 : ¬ 99999999999999 < r := by omega
            go_wp2_with (go_at_call 66; fail)
            refine (hU _).mono ?_
            rintro e w3 ⟨rfl, rfl⟩
            go_wp2
            refine bodyPost_ret (v := tV 0 0 ⟨#[]⟩ 13) (by simp [results, Tryz.results33, go_sem, tV, p0, p1, p2, j0, j1, j2, hy2]) rfl ⟨rfl, ?_⟩
            exact (by (go_light; repeat (first | with_reducible assumption | with_reducible exact Below.refl _ _ | (with_reducible refine Below.setCell ?_ ?_ _; rotate_left; (focus first | (simp; done) | (simp; omega) | omega)) | (with_reducible refine Below.alloc ?_ ?_ _; rotate_left; (focus first | (simp; done) | (simp; omega) | omega)) | with_reducible refine Below.drew ?_)))

end Go.Proofs.YtdcdoeolaongkaaGreatDoor.Ca
namespace Go.Proofs.YtdcdoeolaongkaaGreatDoor.Ca
open Go.MapKept Go.ChangeMaps
open Go.ChangeShapes Go.WideShapes Go.ChangeAt Go.RowKit Go.Shelf
open Go.Proofs.YtdcdoeolaongkaaGreatDoor.Rd
set_option linter.unusedVariables false
set_option linter.unusedSimpArgs false
set_option maxRecDepth 100000
set_option maxHeartbeats 16000000 in
theorem callS_year (k0 n0 : Int) (s0 : ByteArray) (ar : List TA) (a : Option Addr) (cap : Nat) (w : World) (h8 : ar.length ≤ 8) (hr : RVO w (.slice a ar.length cap) ar) (hsz : ∀ t ∈ ar, t.2.2.size ≤ 1048576) (hv : Hid (∀ t ∈ ar, vok t.1 t.2.1 t.2.2 = true)) (hck : Hid (¬ Mp.ckK 7 (kindsA ar) < 0)) (hnn : Hid (∀ t ∈ ar, (t.1 == 0) = false)) (har : Hid (ar = [(k0, n0, s0)])) (y m d : Int) (hP : ∀ W, Calls Tryz.prog 79 #[.int .i64 n0] W fun e w' => e = .returned (.tuple #[.int .i64 y, .int .i64 m, .int .i64 d, .int .i64 0]) ∧ w' = W) :
    Calls Tryz.prog 33 #[.int .i64 7, .slice a ar.length cap] w fun e w' => e = .returned (tV 1 y ⟨#[]⟩ 0) ∧ Below w.heap.size w w' := by
  obtain ⟨i0, hi, hz0, hz1, hz2⟩ := info_parts info3
  have hrr := hr
  obtain ⟨a', cap', hsl, hcells⟩ := hr
  simp only [Value.slice.injEq] at hsl
  obtain ⟨rfl, _, rfl⟩ := hsl
  have h8i : ¬ (8 : Int) < ar.length := by omega
  have bw0 := below_alloc w (.cells #[.int .i64 0, .int .i64 0, .string ⟨#[]⟩] 29)
  have HCE : Hid _ := hcells
  clear hrr
  go_enter Tryz.func33, Tryz.ntmps33
  go_wp2
  generalize hW0 : w.alloc (.cells #[.int .i64 0, .int .i64 0, .string ⟨#[]⟩] 29) = W0 at *
  have hsE : W0.heap.size = w.heap.size + 1 := by rw [← hW0]; simp
  have HSE : Hid _ := hsE
  have hs0 : w.heap.size < W0.heap.size := by omega
  clear hsE
  have r0 : W0.cell? ⟨w.heap.size, 0, none⟩ = some (.int .i64 0) ∧ W0.cell? ⟨w.heap.size, 1, none⟩ = some (.int .i64 0) ∧ W0.cell? ⟨w.heap.size, 2, none⟩ = some (.string ⟨#[]⟩) ∧ W0.frozen? ⟨w.heap.size, 0, none⟩ = false ∧ W0.frozen? ⟨w.heap.size, 1, none⟩ = false ∧ W0.frozen? ⟨w.heap.size, 2, none⟩ = false := by
    rw [← hW0]; simp [go_sem]
  have HR0 : Hid _ := r0
  have HB0 : Hid (Below w.heap.size w W0) := bw0
  clear r0 bw0 hW0
  go_loopw [6, 8, 33] (fun kv _ i wr => ∃ k : Nat, k ≤ ar.length ∧ i = .int .i64 k ∧ OwnK W0.heap.size kv k (kindsA (ar.take k)) wr ∧ Below W0.heap.size W0 wr) (fun _ _ i _ => ar.length - (intOf i).toNat)
  case atStart =>
    refine ⟨0, Nat.zero_le _, rfl, ?_, (Below.refl _ _).alloc (Nat.le_refl _) _⟩
    rw [← HSE.out]
    exact World.ownsRow_made W0 #[] 0 (Nat.le_refl _) (by unfold maxLen; omega) (by simp)
  case round =>
    obtain ⟨k, hk, rfl, hoK, hbel⟩ := hrel
    have ho : wr.ownsRow W0.heap.size 3 1 _ k ((kindsA (ar.take k)).map (Value.int .i64)) := hoK
    clear hoK
    have hbs := hbel.size
    by_cases hlt : k < ar.length
    · have hlti : (k : Int) < ar.length := by omega
      obtain ⟨g, o, rfl, hgg, hgc⟩ := hcells (by omega)
      have bww : Below w.heap.size w wr := HB0.out.trans (hbel.mono (by omega))
      obtain ⟨c0, c1, c2⟩ := hgc k hlt
      have d0 := (bww.cell (p := ⟨g, o + k * 3, none⟩) hgg).trans c0
      have d1 := (bww.cell (p := ⟨g, o + k * 3 + 1, none⟩) hgg).trans c1
      have d2 := (bww.cell (p := ⟨g, o + k * 3 + 2, none⟩) hgg).trans c2
      have hsx := hsz ar[k] (List.getElem_mem hlt)
      have hvx := hv.out ar[k] (List.getElem_mem hlt)
      have HTK : Hid (ar.take (k + 1) = ar.take k ++ [ar[k]]) := take_snoc hlt
      clear c0 c1 c2 hgc hcells hsz HCE
      generalize ar[k] = t at *
      obtain ⟨tk, tn, ts⟩ := t
      simp only at d0 d1 d2 hsx
      have hVX := fun W => vok_spec tk tn ts W hsx
      rw [hvx] at hVX
      clear hvx
      go_wp2_with (first | (go_at_call 14; refine (hVX _).mono ?_; rintro e w1 ⟨rfl, hb1⟩; obtain ⟨hc1, hf1⟩ := bcell hb1; have hz1w : wr.heap.size < w1.heap.size := (by have := hb1.size; simp at this; omega); have bw1 : Below W0.heap.size W0 w1 := (hbel.alloc hbs _).trans (hb1.mono (by simp; omega)); have ho1 := own_below (ho.alloc _) hb1; have e0 : w1.cell? ⟨wr.heap.size, 0, none⟩ = some (.int .i64 tk) := (hc1 wr.heap.size 0 (by simp)).trans (by simp [go_sem])) | (at_builtin; refine wpList_append_own _ rfl (.tmp 41) (.tmp 44) 22 rfl W0.heap.size 3 i0 (.int .i64 0) 1 8 Tryz.underlying22 hi hz0 hz1 hz2 rfl (by decide) _ k ((kindsA (ar.take k)).map (Value.int .i64)) rfl (ho1.alloc _) ⟨w1.heap.size, 0, none⟩ 1 1 [.int .i64 tk] rfl rfl (cell_one_new _ _ _) (by intro u hu; simp at hu; subst hu; rfl) (by unfold maxLen; omega) (by omega) (by have := bw1.size; simp; omega) ?_; intro v' w2 hown' hgrow _; have bw2 : Below W0.heap.size W0 w2 := (bw1.alloc bw1.size _).grown hgrow (by have := bw1.size; simp; omega) (fun j hj => (ho1.lt j hj).1); have HOW : Hid (OwnK W0.heap.size v' (k + 1) (kindsA (ar.take (k + 1))) w2) := OwnK.of HTK.out hown'; clear hown' hgrow))
      go_roundw
      case rel => exact ⟨k + 1, by omega, by go_num, HOW.out, bw2⟩
      case measure => simp [intOf]; omega
    · have hkn : k = ar.length := by omega
      subst hkn
      have hlti : ¬ (ar.length : Int) < ar.length := by omega
      rw [List.take_length] at ho
      have hkl : (kindsA ar).length = ar.length := by simp [kindsA]
      rw [← hkl] at ho
      obtain ⟨ka, kc, rfl, hrio⟩ := own_rio ho
      clear ho
      have hck' := hck.out
      generalize hks : kindsA ar = ks at *
      have HKL : Hid (ks.length = ar.length) := hkl
      have bww : Below w.heap.size w wr := HB0.out.trans (hbel.mono (by omega))
      obtain ⟨q0, q1, q2, f0, f1, f2⟩ := HR0.out
      have hwr : w.heap.size < wr.heap.size := by omega
      have hn20 : ks.length ≤ 1048576 := by rw [hkl]; omega
      clear hkl hks HB0
      go_wp2_with (go_at_call 9; fail)
      have hKS := fun W h => Mp.callKind_spec 7 ks ka kc W hn20 h
      generalize Mp.ckK 7 ks = ck at *
      refine (hKS _ hrio).mono ?_
      rintro e w1 ⟨rfl, hb1⟩
      have b1 : Below W0.heap.size W0 w1 := hbel.trans (hb1.mono hbs)
      have hs1 := b1.size
      have bw1 : Below w.heap.size w w1 := bww.trans (hb1.mono bww.size)
      clear hKS hrio hbel hb1 bww
      have q0 := (b1.cell (p := ⟨w.heap.size, 0, none⟩) hs0).trans q0
      have q1 := (b1.cell (p := ⟨w.heap.size, 1, none⟩) hs0).trans q1
      have q2 := (b1.cell (p := ⟨w.heap.size, 2, none⟩) hs0).trans q2
      have f0 := (b1.frozen (p := ⟨w.heap.size, 0, none⟩) hs0).trans f0
      have f1 := (b1.frozen (p := ⟨w.heap.size, 1, none⟩) hs0).trans f1
      have f2 := (b1.frozen (p := ⟨w.heap.size, 2, none⟩) hs0).trans f2
      have hy1 : w.heap.size < w1.heap.size := by omega
      go_wp2
      go_loopw [13, 74] (fun _ i wr => ∃ k : Nat, k ≤ ar.length ∧ i = .int .i64 k ∧ Below w1.heap.size w1 wr) (fun _ i _ => ar.length - (intOf i).toNat)
      case atStart => exact ⟨0, Nat.zero_le _, rfl, Below.refl _ _⟩
      case round =>
        obtain ⟨k, hk2, rfl, hb2⟩ := hrel
        have hs2 := hb2.size
        have bw2 : Below w.heap.size w wr := bw1.trans (hb2.mono bw1.size)
        by_cases hlt : k < ar.length
        · have hlti : (k : Int) < ar.length := by omega
          obtain ⟨g, o, rfl, hgg, hgc⟩ := HCE.out (by omega)
          obtain ⟨c0, c1, c2⟩ := hgc k hlt
          have d0 := (bw2.cell (p := ⟨g, o + k * 3, none⟩) hgg).trans c0
          have d1 := (bw2.cell (p := ⟨g, o + k * 3 + 1, none⟩) hgg).trans c1
          have d2 := (bw2.cell (p := ⟨g, o + k * 3 + 2, none⟩) hgg).trans c2
          have hnz := hnn.out ar[k] (List.getElem_mem hlt)
          clear c0 c1 c2 hgc hcells HCE hsz
          generalize ar[k] = t at *
          obtain ⟨tk, tn, ts⟩ := t
          simp only at d0 d1 d2 hnz
          go_wp2
          go_roundw
          case rel => exact ⟨k + 1, by omega, by go_num, (by (go_light; repeat (first | with_reducible assumption | with_reducible exact Below.refl _ _ | (with_reducible refine Below.setCell ?_ ?_ _; rotate_left; (focus first | (simp; done) | (simp; omega) | omega)) | (with_reducible refine Below.alloc ?_ ?_ _; rotate_left; (focus first | (simp; done) | (simp; omega) | omega)) | with_reducible refine Below.drew ?_)))⟩
          case measure => simp [intOf]; omega
        · have hkn : k = ar.length := by omega
          subst hkn
          have hlti : ¬ (ar.length : Int) < ar.length := by omega
          have p0 := (hb2.cell (p := ⟨w.heap.size, 0, none⟩) hy1).trans q0
          have p1 := (hb2.cell (p := ⟨w.heap.size, 1, none⟩) hy1).trans q1
          have p2 := (hb2.cell (p := ⟨w.heap.size, 2, none⟩) hy1).trans q2
          have j0 := (hb2.frozen (p := ⟨w.heap.size, 0, none⟩) hy1).trans f0
          have j1 := (hb2.frozen (p := ⟨w.heap.size, 1, none⟩) hy1).trans f1
          have j2 := (hb2.frozen (p := ⟨w.heap.size, 2, none⟩) hy1).trans f2
          have hy2 : w.heap.size < wr.heap.size := by omega
          have hlen : ar.length = 1 := by rw [har.out]; rfl
          have hli : (ar.length : Int) = 1 := by omega
          obtain ⟨g, o, rfl, hgg, hgc⟩ := HCE.out (by omega)
          have G0 : ar[0]'(by omega) = (k0, n0, s0) := by simp only [har.out]; rfl
          obtain ⟨c00, c01, c02⟩ := hgc 0 (by omega)
          rw [G0] at c00 c01 c02
          have x00 := (bw2.cell (p := ⟨g, o + 0 * 3, none⟩) hgg).trans c00
          have x01 := (bw2.cell (p := ⟨g, o + 0 * 3 + 1, none⟩) hgg).trans c01
          have x02 := (bw2.cell (p := ⟨g, o + 0 * 3 + 2, none⟩) hgg).trans c02
          simp only [Nat.zero_mul, Nat.add_zero, Nat.one_mul, (by decide : 2 * 3 = 6)] at x00 x01 x02
          clear c00 c01 c02 G0
          have hgw : g < wr.heap.size := by have := bw2.size; omega
          clear hgc hcells HCE hsz b1 hb2 q0 q1 q2 f0 f1 f2 HR0
          go_wp2_with (go_at_call 79; fail)
          refine (hP _).mono ?_
          rintro e w3 ⟨rfl, rfl⟩
          go_wp2
          refine bodyPost_ret (v := tV 1 y ⟨#[]⟩ 0) (by simp [results, Tryz.results33, go_sem, tV, p0, p1, p2, j0, j1, j2, hy2]) rfl ⟨rfl, ?_⟩
          exact (by (go_light; repeat (first | with_reducible assumption | with_reducible exact Below.refl _ _ | (with_reducible refine Below.setCell ?_ ?_ _; rotate_left; (focus first | (simp; done) | (simp; omega) | omega)) | (with_reducible refine Below.alloc ?_ ?_ _; rotate_left; (focus first | (simp; done) | (simp; omega) | omega)) | with_reducible refine Below.drew ?_)))

set_option maxHeartbeats 16000000 in
theorem callS_month (k0 n0 : Int) (s0 : ByteArray) (ar : List TA) (a : Option Addr) (cap : Nat) (w : World) (h8 : ar.length ≤ 8) (hr : RVO w (.slice a ar.length cap) ar) (hsz : ∀ t ∈ ar, t.2.2.size ≤ 1048576) (hv : Hid (∀ t ∈ ar, vok t.1 t.2.1 t.2.2 = true)) (hck : Hid (¬ Mp.ckK 8 (kindsA ar) < 0)) (hnn : Hid (∀ t ∈ ar, (t.1 == 0) = false)) (har : Hid (ar = [(k0, n0, s0)])) (y m d : Int) (hP : ∀ W, Calls Tryz.prog 79 #[.int .i64 n0] W fun e w' => e = .returned (.tuple #[.int .i64 y, .int .i64 m, .int .i64 d, .int .i64 0]) ∧ w' = W) :
    Calls Tryz.prog 33 #[.int .i64 8, .slice a ar.length cap] w fun e w' => e = .returned (tV 1 m ⟨#[]⟩ 0) ∧ Below w.heap.size w w' := by
  obtain ⟨i0, hi, hz0, hz1, hz2⟩ := info_parts info3
  have hrr := hr
  obtain ⟨a', cap', hsl, hcells⟩ := hr
  simp only [Value.slice.injEq] at hsl
  obtain ⟨rfl, _, rfl⟩ := hsl
  have h8i : ¬ (8 : Int) < ar.length := by omega
  have bw0 := below_alloc w (.cells #[.int .i64 0, .int .i64 0, .string ⟨#[]⟩] 29)
  have HCE : Hid _ := hcells
  clear hrr
  go_enter Tryz.func33, Tryz.ntmps33
  go_wp2
  generalize hW0 : w.alloc (.cells #[.int .i64 0, .int .i64 0, .string ⟨#[]⟩] 29) = W0 at *
  have hsE : W0.heap.size = w.heap.size + 1 := by rw [← hW0]; simp
  have HSE : Hid _ := hsE
  have hs0 : w.heap.size < W0.heap.size := by omega
  clear hsE
  have r0 : W0.cell? ⟨w.heap.size, 0, none⟩ = some (.int .i64 0) ∧ W0.cell? ⟨w.heap.size, 1, none⟩ = some (.int .i64 0) ∧ W0.cell? ⟨w.heap.size, 2, none⟩ = some (.string ⟨#[]⟩) ∧ W0.frozen? ⟨w.heap.size, 0, none⟩ = false ∧ W0.frozen? ⟨w.heap.size, 1, none⟩ = false ∧ W0.frozen? ⟨w.heap.size, 2, none⟩ = false := by
    rw [← hW0]; simp [go_sem]
  have HR0 : Hid _ := r0
  have HB0 : Hid (Below w.heap.size w W0) := bw0
  clear r0 bw0 hW0
  go_loopw [6, 8, 33] (fun kv _ i wr => ∃ k : Nat, k ≤ ar.length ∧ i = .int .i64 k ∧ OwnK W0.heap.size kv k (kindsA (ar.take k)) wr ∧ Below W0.heap.size W0 wr) (fun _ _ i _ => ar.length - (intOf i).toNat)
  case atStart =>
    refine ⟨0, Nat.zero_le _, rfl, ?_, (Below.refl _ _).alloc (Nat.le_refl _) _⟩
    rw [← HSE.out]
    exact World.ownsRow_made W0 #[] 0 (Nat.le_refl _) (by unfold maxLen; omega) (by simp)
  case round =>
    obtain ⟨k, hk, rfl, hoK, hbel⟩ := hrel
    have ho : wr.ownsRow W0.heap.size 3 1 _ k ((kindsA (ar.take k)).map (Value.int .i64)) := hoK
    clear hoK
    have hbs := hbel.size
    by_cases hlt : k < ar.length
    · have hlti : (k : Int) < ar.length := by omega
      obtain ⟨g, o, rfl, hgg, hgc⟩ := hcells (by omega)
      have bww : Below w.heap.size w wr := HB0.out.trans (hbel.mono (by omega))
      obtain ⟨c0, c1, c2⟩ := hgc k hlt
      have d0 := (bww.cell (p := ⟨g, o + k * 3, none⟩) hgg).trans c0
      have d1 := (bww.cell (p := ⟨g, o + k * 3 + 1, none⟩) hgg).trans c1
      have d2 := (bww.cell (p := ⟨g, o + k * 3 + 2, none⟩) hgg).trans c2
      have hsx := hsz ar[k] (List.getElem_mem hlt)
      have hvx := hv.out ar[k] (List.getElem_mem hlt)
      have HTK : Hid (ar.take (k + 1) = ar.take k ++ [ar[k]]) := take_snoc hlt
      clear c0 c1 c2 hgc hcells hsz HCE
      generalize ar[k] = t at *
      obtain ⟨tk, tn, ts⟩ := t
      simp only at d0 d1 d2 hsx
      have hVX := fun W => vok_spec tk tn ts W hsx
      rw [hvx] at hVX
      clear hvx
      go_wp2_with (first | (go_at_call 14; refine (hVX _).mono ?_; rintro e w1 ⟨rfl, hb1⟩; obtain ⟨hc1, hf1⟩ := bcell hb1; have hz1w : wr.heap.size < w1.heap.size := (by have := hb1.size; simp at this; omega); have bw1 : Below W0.heap.size W0 w1 := (hbel.alloc hbs _).trans (hb1.mono (by simp; omega)); have ho1 := own_below (ho.alloc _) hb1; have e0 : w1.cell? ⟨wr.heap.size, 0, none⟩ = some (.int .i64 tk) := (hc1 wr.heap.size 0 (by simp)).trans (by simp [go_sem])) | (at_builtin; refine wpList_append_own _ rfl (.tmp 41) (.tmp 44) 22 rfl W0.heap.size 3 i0 (.int .i64 0) 1 8 Tryz.underlying22 hi hz0 hz1 hz2 rfl (by decide) _ k ((kindsA (ar.take k)).map (Value.int .i64)) rfl (ho1.alloc _) ⟨w1.heap.size, 0, none⟩ 1 1 [.int .i64 tk] rfl rfl (cell_one_new _ _ _) (by intro u hu; simp at hu; subst hu; rfl) (by unfold maxLen; omega) (by omega) (by have := bw1.size; simp; omega) ?_; intro v' w2 hown' hgrow _; have bw2 : Below W0.heap.size W0 w2 := (bw1.alloc bw1.size _).grown hgrow (by have := bw1.size; simp; omega) (fun j hj => (ho1.lt j hj).1); have HOW : Hid (OwnK W0.heap.size v' (k + 1) (kindsA (ar.take (k + 1))) w2) := OwnK.of HTK.out hown'; clear hown' hgrow))
      go_roundw
      case rel => exact ⟨k + 1, by omega, by go_num, HOW.out, bw2⟩
      case measure => simp [intOf]; omega
    · have hkn : k = ar.length := by omega
      subst hkn
      have hlti : ¬ (ar.length : Int) < ar.length := by omega
      rw [List.take_length] at ho
      have hkl : (kindsA ar).length = ar.length := by simp [kindsA]
      rw [← hkl] at ho
      obtain ⟨ka, kc, rfl, hrio⟩ := own_rio ho
      clear ho
      have hck' := hck.out
      generalize hks : kindsA ar = ks at *
      have HKL : Hid (ks.length = ar.length) := hkl
      have bww : Below w.heap.size w wr := HB0.out.trans (hbel.mono (by omega))
      obtain ⟨q0, q1, q2, f0, f1, f2⟩ := HR0.out
      have hwr : w.heap.size < wr.heap.size := by omega
      have hn20 : ks.length ≤ 1048576 := by rw [hkl]; omega
      clear hkl hks HB0
      go_wp2_with (go_at_call 9; fail)
      have hKS := fun W h => Mp.callKind_spec 8 ks ka kc W hn20 h
      generalize Mp.ckK 8 ks = ck at *
      refine (hKS _ hrio).mono ?_
      rintro e w1 ⟨rfl, hb1⟩
      have b1 : Below W0.heap.size W0 w1 := hbel.trans (hb1.mono hbs)
      have hs1 := b1.size
      have bw1 : Below w.heap.size w w1 := bww.trans (hb1.mono bww.size)
      clear hKS hrio hbel hb1 bww
      have q0 := (b1.cell (p := ⟨w.heap.size, 0, none⟩) hs0).trans q0
      have q1 := (b1.cell (p := ⟨w.heap.size, 1, none⟩) hs0).trans q1
      have q2 := (b1.cell (p := ⟨w.heap.size, 2, none⟩) hs0).trans q2
      have f0 := (b1.frozen (p := ⟨w.heap.size, 0, none⟩) hs0).trans f0
      have f1 := (b1.frozen (p := ⟨w.heap.size, 1, none⟩) hs0).trans f1
      have f2 := (b1.frozen (p := ⟨w.heap.size, 2, none⟩) hs0).trans f2
      have hy1 : w.heap.size < w1.heap.size := by omega
      go_wp2
      go_loopw [13, 74] (fun _ i wr => ∃ k : Nat, k ≤ ar.length ∧ i = .int .i64 k ∧ Below w1.heap.size w1 wr) (fun _ i _ => ar.length - (intOf i).toNat)
      case atStart => exact ⟨0, Nat.zero_le _, rfl, Below.refl _ _⟩
      case round =>
        obtain ⟨k, hk2, rfl, hb2⟩ := hrel
        have hs2 := hb2.size
        have bw2 : Below w.heap.size w wr := bw1.trans (hb2.mono bw1.size)
        by_cases hlt : k < ar.length
        · have hlti : (k : Int) < ar.length := by omega
          obtain ⟨g, o, rfl, hgg, hgc⟩ := HCE.out (by omega)
          obtain ⟨c0, c1, c2⟩ := hgc k hlt
          have d0 := (bw2.cell (p := ⟨g, o + k * 3, none⟩) hgg).trans c0
          have d1 := (bw2.cell (p := ⟨g, o + k * 3 + 1, none⟩) hgg).trans c1
          have d2 := (bw2.cell (p := ⟨g, o + k * 3 + 2, none⟩) hgg).trans c2
          have hnz := hnn.out ar[k] (List.getElem_mem hlt)
          clear c0 c1 c2 hgc hcells HCE hsz
          generalize ar[k] = t at *
          obtain ⟨tk, tn, ts⟩ := t
          simp only at d0 d1 d2 hnz
          go_wp2
          go_roundw
          case rel => exact ⟨k + 1, by omega, by go_num, (by (go_light; repeat (first | with_reducible assumption | with_reducible exact Below.refl _ _ | (with_reducible refine Below.setCell ?_ ?_ _; rotate_left; (focus first | (simp; done) | (simp; omega) | omega)) | (with_reducible refine Below.alloc ?_ ?_ _; rotate_left; (focus first | (simp; done) | (simp; omega) | omega)) | with_reducible refine Below.drew ?_)))⟩
          case measure => simp [intOf]; omega
        · have hkn : k = ar.length := by omega
          subst hkn
          have hlti : ¬ (ar.length : Int) < ar.length := by omega
          have p0 := (hb2.cell (p := ⟨w.heap.size, 0, none⟩) hy1).trans q0
          have p1 := (hb2.cell (p := ⟨w.heap.size, 1, none⟩) hy1).trans q1
          have p2 := (hb2.cell (p := ⟨w.heap.size, 2, none⟩) hy1).trans q2
          have j0 := (hb2.frozen (p := ⟨w.heap.size, 0, none⟩) hy1).trans f0
          have j1 := (hb2.frozen (p := ⟨w.heap.size, 1, none⟩) hy1).trans f1
          have j2 := (hb2.frozen (p := ⟨w.heap.size, 2, none⟩) hy1).trans f2
          have hy2 : w.heap.size < wr.heap.size := by omega
          have hlen : ar.length = 1 := by rw [har.out]; rfl
          have hli : (ar.length : Int) = 1 := by omega
          obtain ⟨g, o, rfl, hgg, hgc⟩ := HCE.out (by omega)
          have G0 : ar[0]'(by omega) = (k0, n0, s0) := by simp only [har.out]; rfl
          obtain ⟨c00, c01, c02⟩ := hgc 0 (by omega)
          rw [G0] at c00 c01 c02
          have x00 := (bw2.cell (p := ⟨g, o + 0 * 3, none⟩) hgg).trans c00
          have x01 := (bw2.cell (p := ⟨g, o + 0 * 3 + 1, none⟩) hgg).trans c01
          have x02 := (bw2.cell (p := ⟨g, o + 0 * 3 + 2, none⟩) hgg).trans c02
          simp only [Nat.zero_mul, Nat.add_zero, Nat.one_mul, (by decide : 2 * 3 = 6)] at x00 x01 x02
          clear c00 c01 c02 G0
          have hgw : g < wr.heap.size := by have := bw2.size; omega
          clear hgc hcells HCE hsz b1 hb2 q0 q1 q2 f0 f1 f2 HR0
          go_wp2_with (go_at_call 79; fail)
          refine (hP _).mono ?_
          rintro e w3 ⟨rfl, rfl⟩
          go_wp2
          refine bodyPost_ret (v := tV 1 m ⟨#[]⟩ 0) (by simp [results, Tryz.results33, go_sem, tV, p0, p1, p2, j0, j1, j2, hy2]) rfl ⟨rfl, ?_⟩
          exact (by (go_light; repeat (first | with_reducible assumption | with_reducible exact Below.refl _ _ | (with_reducible refine Below.setCell ?_ ?_ _; rotate_left; (focus first | (simp; done) | (simp; omega) | omega)) | (with_reducible refine Below.alloc ?_ ?_ _; rotate_left; (focus first | (simp; done) | (simp; omega) | omega)) | with_reducible refine Below.drew ?_)))

set_option maxHeartbeats 16000000 in
theorem callS_day (k0 n0 : Int) (s0 : ByteArray) (ar : List TA) (a : Option Addr) (cap : Nat) (w : World) (h8 : ar.length ≤ 8) (hr : RVO w (.slice a ar.length cap) ar) (hsz : ∀ t ∈ ar, t.2.2.size ≤ 1048576) (hv : Hid (∀ t ∈ ar, vok t.1 t.2.1 t.2.2 = true)) (hck : Hid (¬ Mp.ckK 9 (kindsA ar) < 0)) (hnn : Hid (∀ t ∈ ar, (t.1 == 0) = false)) (har : Hid (ar = [(k0, n0, s0)])) (y m d : Int) (hP : ∀ W, Calls Tryz.prog 79 #[.int .i64 n0] W fun e w' => e = .returned (.tuple #[.int .i64 y, .int .i64 m, .int .i64 d, .int .i64 0]) ∧ w' = W) :
    Calls Tryz.prog 33 #[.int .i64 9, .slice a ar.length cap] w fun e w' => e = .returned (tV 1 d ⟨#[]⟩ 0) ∧ Below w.heap.size w w' := by
  obtain ⟨i0, hi, hz0, hz1, hz2⟩ := info_parts info3
  have hrr := hr
  obtain ⟨a', cap', hsl, hcells⟩ := hr
  simp only [Value.slice.injEq] at hsl
  obtain ⟨rfl, _, rfl⟩ := hsl
  have h8i : ¬ (8 : Int) < ar.length := by omega
  have bw0 := below_alloc w (.cells #[.int .i64 0, .int .i64 0, .string ⟨#[]⟩] 29)
  have HCE : Hid _ := hcells
  clear hrr
  go_enter Tryz.func33, Tryz.ntmps33
  go_wp2
  generalize hW0 : w.alloc (.cells #[.int .i64 0, .int .i64 0, .string ⟨#[]⟩] 29) = W0 at *
  have hsE : W0.heap.size = w.heap.size + 1 := by rw [← hW0]; simp
  have HSE : Hid _ := hsE
  have hs0 : w.heap.size < W0.heap.size := by omega
  clear hsE
  have r0 : W0.cell? ⟨w.heap.size, 0, none⟩ = some (.int .i64 0) ∧ W0.cell? ⟨w.heap.size, 1, none⟩ = some (.int .i64 0) ∧ W0.cell? ⟨w.heap.size, 2, none⟩ = some (.string ⟨#[]⟩) ∧ W0.frozen? ⟨w.heap.size, 0, none⟩ = false ∧ W0.frozen? ⟨w.heap.size, 1, none⟩ = false ∧ W0.frozen? ⟨w.heap.size, 2, none⟩ = false := by
    rw [← hW0]; simp [go_sem]
  have HR0 : Hid _ := r0
  have HB0 : Hid (Below w.heap.size w W0) := bw0
  clear r0 bw0 hW0
  go_loopw [6, 8, 33] (fun kv _ i wr => ∃ k : Nat, k ≤ ar.length ∧ i = .int .i64 k ∧ OwnK W0.heap.size kv k (kindsA (ar.take k)) wr ∧ Below W0.heap.size W0 wr) (fun _ _ i _ => ar.length - (intOf i).toNat)
  case atStart =>
    refine ⟨0, Nat.zero_le _, rfl, ?_, (Below.refl _ _).alloc (Nat.le_refl _) _⟩
    rw [← HSE.out]
    exact World.ownsRow_made W0 #[] 0 (Nat.le_refl _) (by unfold maxLen; omega) (by simp)
  case round =>
    obtain ⟨k, hk, rfl, hoK, hbel⟩ := hrel
    have ho : wr.ownsRow W0.heap.size 3 1 _ k ((kindsA (ar.take k)).map (Value.int .i64)) := hoK
    clear hoK
    have hbs := hbel.size
    by_cases hlt : k < ar.length
    · have hlti : (k : Int) < ar.length := by omega
      obtain ⟨g, o, rfl, hgg, hgc⟩ := hcells (by omega)
      have bww : Below w.heap.size w wr := HB0.out.trans (hbel.mono (by omega))
      obtain ⟨c0, c1, c2⟩ := hgc k hlt
      have d0 := (bww.cell (p := ⟨g, o + k * 3, none⟩) hgg).trans c0
      have d1 := (bww.cell (p := ⟨g, o + k * 3 + 1, none⟩) hgg).trans c1
      have d2 := (bww.cell (p := ⟨g, o + k * 3 + 2, none⟩) hgg).trans c2
      have hsx := hsz ar[k] (List.getElem_mem hlt)
      have hvx := hv.out ar[k] (List.getElem_mem hlt)
      have HTK : Hid (ar.take (k + 1) = ar.take k ++ [ar[k]]) := take_snoc hlt
      clear c0 c1 c2 hgc hcells hsz HCE
      generalize ar[k] = t at *
      obtain ⟨tk, tn, ts⟩ := t
      simp only at d0 d1 d2 hsx
      have hVX := fun W => vok_spec tk tn ts W hsx
      rw [hvx] at hVX
      clear hvx
      go_wp2_with (first | (go_at_call 14; refine (hVX _).mono ?_; rintro e w1 ⟨rfl, hb1⟩; obtain ⟨hc1, hf1⟩ := bcell hb1; have hz1w : wr.heap.size < w1.heap.size := (by have := hb1.size; simp at this; omega); have bw1 : Below W0.heap.size W0 w1 := (hbel.alloc hbs _).trans (hb1.mono (by simp; omega)); have ho1 := own_below (ho.alloc _) hb1; have e0 : w1.cell? ⟨wr.heap.size, 0, none⟩ = some (.int .i64 tk) := (hc1 wr.heap.size 0 (by simp)).trans (by simp [go_sem])) | (at_builtin; refine wpList_append_own _ rfl (.tmp 41) (.tmp 44) 22 rfl W0.heap.size 3 i0 (.int .i64 0) 1 8 Tryz.underlying22 hi hz0 hz1 hz2 rfl (by decide) _ k ((kindsA (ar.take k)).map (Value.int .i64)) rfl (ho1.alloc _) ⟨w1.heap.size, 0, none⟩ 1 1 [.int .i64 tk] rfl rfl (cell_one_new _ _ _) (by intro u hu; simp at hu; subst hu; rfl) (by unfold maxLen; omega) (by omega) (by have := bw1.size; simp; omega) ?_; intro v' w2 hown' hgrow _; have bw2 : Below W0.heap.size W0 w2 := (bw1.alloc bw1.size _).grown hgrow (by have := bw1.size; simp; omega) (fun j hj => (ho1.lt j hj).1); have HOW : Hid (OwnK W0.heap.size v' (k + 1) (kindsA (ar.take (k + 1))) w2) := OwnK.of HTK.out hown'; clear hown' hgrow))
      go_roundw
      case rel => exact ⟨k + 1, by omega, by go_num, HOW.out, bw2⟩
      case measure => simp [intOf]; omega
    · have hkn : k = ar.length := by omega
      subst hkn
      have hlti : ¬ (ar.length : Int) < ar.length := by omega
      rw [List.take_length] at ho
      have hkl : (kindsA ar).length = ar.length := by simp [kindsA]
      rw [← hkl] at ho
      obtain ⟨ka, kc, rfl, hrio⟩ := own_rio ho
      clear ho
      have hck' := hck.out
      generalize hks : kindsA ar = ks at *
      have HKL : Hid (ks.length = ar.length) := hkl
      have bww : Below w.heap.size w wr := HB0.out.trans (hbel.mono (by omega))
      obtain ⟨q0, q1, q2, f0, f1, f2⟩ := HR0.out
      have hwr : w.heap.size < wr.heap.size := by omega
      have hn20 : ks.length ≤ 1048576 := by rw [hkl]; omega
      clear hkl hks HB0
      go_wp2_with (go_at_call 9; fail)
      have hKS := fun W h => Mp.callKind_spec 9 ks ka kc W hn20 h
      generalize Mp.ckK 9 ks = ck at *
      refine (hKS _ hrio).mono ?_
      rintro e w1 ⟨rfl, hb1⟩
      have b1 : Below W0.heap.size W0 w1 := hbel.trans (hb1.mono hbs)
      have hs1 := b1.size
      have bw1 : Below w.heap.size w w1 := bww.trans (hb1.mono bww.size)
      clear hKS hrio hbel hb1 bww
      have q0 := (b1.cell (p := ⟨w.heap.size, 0, none⟩) hs0).trans q0
      have q1 := (b1.cell (p := ⟨w.heap.size, 1, none⟩) hs0).trans q1
      have q2 := (b1.cell (p := ⟨w.heap.size, 2, none⟩) hs0).trans q2
      have f0 := (b1.frozen (p := ⟨w.heap.size, 0, none⟩) hs0).trans f0
      have f1 := (b1.frozen (p := ⟨w.heap.size, 1, none⟩) hs0).trans f1
      have f2 := (b1.frozen (p := ⟨w.heap.size, 2, none⟩) hs0).trans f2
      have hy1 : w.heap.size < w1.heap.size := by omega
      go_wp2
      go_loopw [13, 74] (fun _ i wr => ∃ k : Nat, k ≤ ar.length ∧ i = .int .i64 k ∧ Below w1.heap.size w1 wr) (fun _ i _ => ar.length - (intOf i).toNat)
      case atStart => exact ⟨0, Nat.zero_le _, rfl, Below.refl _ _⟩
      case round =>
        obtain ⟨k, hk2, rfl, hb2⟩ := hrel
        have hs2 := hb2.size
        have bw2 : Below w.heap.size w wr := bw1.trans (hb2.mono bw1.size)
        by_cases hlt : k < ar.length
        · have hlti : (k : Int) < ar.length := by omega
          obtain ⟨g, o, rfl, hgg, hgc⟩ := HCE.out (by omega)
          obtain ⟨c0, c1, c2⟩ := hgc k hlt
          have d0 := (bw2.cell (p := ⟨g, o + k * 3, none⟩) hgg).trans c0
          have d1 := (bw2.cell (p := ⟨g, o + k * 3 + 1, none⟩) hgg).trans c1
          have d2 := (bw2.cell (p := ⟨g, o + k * 3 + 2, none⟩) hgg).trans c2
          have hnz := hnn.out ar[k] (List.getElem_mem hlt)
          clear c0 c1 c2 hgc hcells HCE hsz
          generalize ar[k] = t at *
          obtain ⟨tk, tn, ts⟩ := t
          simp only at d0 d1 d2 hnz
          go_wp2
          go_roundw
          case rel => exact ⟨k + 1, by omega, by go_num, (by (go_light; repeat (first | with_reducible assumption | with_reducible exact Below.refl _ _ | (with_reducible refine Below.setCell ?_ ?_ _; rotate_left; (focus first | (simp; done) | (simp; omega) | omega)) | (with_reducible refine Below.alloc ?_ ?_ _; rotate_left; (focus first | (simp; done) | (simp; omega) | omega)) | with_reducible refine Below.drew ?_)))⟩
          case measure => simp [intOf]; omega
        · have hkn : k = ar.length := by omega
          subst hkn
          have hlti : ¬ (ar.length : Int) < ar.length := by omega
          have p0 := (hb2.cell (p := ⟨w.heap.size, 0, none⟩) hy1).trans q0
          have p1 := (hb2.cell (p := ⟨w.heap.size, 1, none⟩) hy1).trans q1
          have p2 := (hb2.cell (p := ⟨w.heap.size, 2, none⟩) hy1).trans q2
          have j0 := (hb2.frozen (p := ⟨w.heap.size, 0, none⟩) hy1).trans f0
          have j1 := (hb2.frozen (p := ⟨w.heap.size, 1, none⟩) hy1).trans f1
          have j2 := (hb2.frozen (p := ⟨w.heap.size, 2, none⟩) hy1).trans f2
          have hy2 : w.heap.size < wr.heap.size := by omega
          have hlen : ar.length = 1 := by rw [har.out]; rfl
          have hli : (ar.length : Int) = 1 := by omega
          obtain ⟨g, o, rfl, hgg, hgc⟩ := HCE.out (by omega)
          have G0 : ar[0]'(by omega) = (k0, n0, s0) := by simp only [har.out]; rfl
          obtain ⟨c00, c01, c02⟩ := hgc 0 (by omega)
          rw [G0] at c00 c01 c02
          have x00 := (bw2.cell (p := ⟨g, o + 0 * 3, none⟩) hgg).trans c00
          have x01 := (bw2.cell (p := ⟨g, o + 0 * 3 + 1, none⟩) hgg).trans c01
          have x02 := (bw2.cell (p := ⟨g, o + 0 * 3 + 2, none⟩) hgg).trans c02
          simp only [Nat.zero_mul, Nat.add_zero, Nat.one_mul, (by decide : 2 * 3 = 6)] at x00 x01 x02
          clear c00 c01 c02 G0
          have hgw : g < wr.heap.size := by have := bw2.size; omega
          clear hgc hcells HCE hsz b1 hb2 q0 q1 q2 f0 f1 f2 HR0
          go_wp2_with (go_at_call 79; fail)
          refine (hP _).mono ?_
          rintro e w3 ⟨rfl, rfl⟩
          go_wp2
          refine bodyPost_ret (v := tV 1 d ⟨#[]⟩ 0) (by simp [results, Tryz.results33, go_sem, tV, p0, p1, p2, j0, j1, j2, hy2]) rfl ⟨rfl, ?_⟩
          exact (by (go_light; repeat (first | with_reducible assumption | with_reducible exact Below.refl _ _ | (with_reducible refine Below.setCell ?_ ?_ _; rotate_left; (focus first | (simp; done) | (simp; omega) | omega)) | (with_reducible refine Below.alloc ?_ ?_ _; rotate_left; (focus first | (simp; done) | (simp; omega) | omega)) | with_reducible refine Below.drew ?_)))

end Go.Proofs.YtdcdoeolaongkaaGreatDoor.Ca
