import Derived.Test.YtjfgojlnpbehfaaCL
namespace Go.Proofs.Ytjfgojlnpbehfaa
open Go.ChangeShapes Go.WideShapes Go.ChangeAt Go.RowKit
set_option linter.unusedVariables false
set_option linter.unusedSimpArgs false
set_option maxRecDepth 100000
def tabAt (l : List Int) (i : Nat) : Prop := 0 ≤ l.getD i 0 ∧ l.getD i 0 < 32 ∧ (0 < i → l.getD (i - 1) 0 < l.getD i 0)
def tabP (l : List Int) : Prop := l.length ≤ 32 ∧ ∀ i, i < l.length → tabAt l i
theorem getD_at {l : List Int} {k : Nat} (h : k < l.length) : l.getD k 0 = l[k] := by rw [List.getD_eq_getElem?_getD, List.getElem?_eq_getElem h]; rfl
set_option maxHeartbeats 4000000 in
theorem tables_spec (a : Option Addr) (ca : Nat) (xs : List Int) (w : World) (hn : xs.length ≤ 1048576) (ha : RS 1 CI 0 w (.slice a xs.length ca) xs) :
    Calls Try.prog 38 #[.slice a xs.length ca] w fun e w' => RB (tabP xs) e ∧ w' = w := by
  by_cases hbig : (32 : Int) < xs.length
  · have HF : Hid (¬ tabP xs) := (fun h => by have := h.1; omega : ¬ tabP xs)
    clear ha
    go_enter Try.func38, Try.ntmps38
    go_wp2
    go_ret
    exact ⟨rb_f HF.out, rfl⟩
  obtain ⟨a', ca', he, hva⟩ := ha
  simp only [Value.slice.injEq] at he
  obtain ⟨rfl, _, rfl⟩ := he
  go_enter Try.func38, Try.ntmps38
  go_wp2
  go_loopw [10] (fun i wr => ∃ k : Nat, k ≤ xs.length ∧ i = .int .i64 k ∧ Hid (∀ j, j < k → tabAt xs j) ∧ wr = w) (fun i _ => xs.length - (intOf i).toNat)
  case atStart => exact ⟨0, Nat.zero_le _, rfl, (fun x h => absurd h (Nat.not_lt_zero _) : ∀ j, j < 0 → tabAt xs j), rfl⟩
  case round =>
    obtain ⟨k, hk, rfl, HO, hww⟩ := hrel
    replace hww := hww.symm
    subst hww
    by_cases hlt : k < xs.length
    · have hlti : (k : Int) < xs.length := by omega
      obtain ⟨g, o, rfl, _, hg, hgc⟩ := hva (by omega)
      obtain ⟨cs, hC, hcell⟩ := hgc k hlt
      unfold CI at hC
      subst hC
      have c0 : w.cell? ⟨g, o + k, none⟩ = some (.int .i64 xs[k]) := ((Below.refl _ w).cell (p := ⟨g, o + k, none⟩) hg).trans (by have := hcell 0 (by omega); rw [Nat.mul_one, Nat.add_zero] at this; exact this)
      have HST : Hid (tabAt xs k → ∀ j, j < k + 1 → tabAt xs j) := (fun z j hj => by
        by_cases e : j = k
        · subst e; exact z
        · exact HO.out j (by omega) : tabAt xs k → ∀ j, j < k + 1 → tabAt xs j)
      have HNo : Hid (¬ tabAt xs k → ¬ tabP xs) := (fun z h => z (h.2 k hlt) : ¬ tabAt xs k → ¬ tabP xs)
      have HD := hid (getD_at hlt)
      clear hcell HO
      generalize hx : xs[k] = x at c0 HD
      clear hx
      by_cases h0 : x < 0
      · have HF := hid (HNo.out (fun h => by have := h.1; rw [HD.out] at this; omega))
        clear hgc hva HST HNo HD
        go_wp2
        go_ret
        exact ⟨rb_f HF.out, rfl⟩
      by_cases h1 : 32 ≤ x
      · have HF := hid (HNo.out (fun h => by have := h.2.1; rw [HD.out] at this; omega))
        clear hgc hva HST HNo HD
        go_wp2
        go_ret
        exact ⟨rb_f HF.out, rfl⟩
      by_cases hk0 : (0 : Int) < k
      · obtain ⟨ds, hE, hcell2⟩ := hgc (k - 1) (by omega)
        unfold CI at hE
        subst hE
        have d0 : w.cell? ⟨g, o + (k - 1), none⟩ = some (.int .i64 xs[k - 1]) := ((Below.refl _ w).cell (p := ⟨g, o + (k - 1), none⟩) hg).trans (by have := hcell2 0 (by omega); rw [Nat.mul_one, Nat.add_zero] at this; exact this)
        have HE := hid (getD_at (show k - 1 < xs.length by omega))
        have hw : IntKind.i64.wrap ((k : Int) - 1) = ((k - 1 : Nat) : Int) := by simp only [IntKind.wrap_i64, wrap64]; omega
        have hk1 : ((k - 1 : Nat) : Int) < xs.length := by omega
        clear hgc hva hcell2
        generalize hy : xs[k - 1] = y at d0 HE
        clear hy
        generalize hkp : k - 1 = kp at d0 HE hw hk1
        by_cases h2 : x ≤ y
        · have HF := hid (HNo.out (fun h => by have := h.2.2 (by omega); rw [HD.out, hkp, HE.out] at this; omega))
          clear HST HNo HD HE hkp
          go_wp2
          go_ret
          exact ⟨rb_f HF.out, rfl⟩
        · have HV := hid (HST.out ⟨by rw [HD.out]; omega, by rw [HD.out]; omega, fun _ => by rw [HD.out, hkp, HE.out]; omega⟩)
          clear HST HNo HD HE hkp
          go_wp2
          go_roundw
          case rel => exact ⟨k + 1, by omega, by go_num, HV, by first | exact rfl | trivial⟩
          case measure => simp [intOf]; omega
      · have HV := hid (HST.out ⟨by rw [HD.out]; omega, by rw [HD.out]; omega, fun z => by omega⟩)
        clear HST HNo HD hgc hva
        go_wp2
        go_roundw
        case rel => exact ⟨k + 1, by omega, by go_num, HV, by first | exact rfl | trivial⟩
        case measure => simp [intOf]; omega
    · have hkn : k = xs.length := by omega
      subst hkn
      have hlti : ¬ (xs.length : Int) < xs.length := by omega
      have HT : Hid (tabP xs) := (⟨by omega, HO.out⟩ : tabP xs)
      clear HO
      go_wp2
      go_ret
      exact ⟨rb_t HT.out, rfl⟩
end Go.Proofs.Ytjfgojlnpbehfaa
