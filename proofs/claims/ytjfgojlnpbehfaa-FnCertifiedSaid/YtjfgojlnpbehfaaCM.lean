import Derived.Test.YtjfgojlnpbehfaaDD
namespace Go.Proofs.Ytjfgojlnpbehfaa
open Go.ChangeShapes Go.WideShapes Go.ChangeAt Go.RowKit
set_option linter.unusedVariables false
set_option linter.unusedSimpArgs false
set_option maxRecDepth 100000
def meetP (xs ys : List Int) : Prop := ∃ x ∈ xs, x ∈ ys
theorem rb_yes {P : Program} {F : Nat} {av : Array Value} {w : World} {p : Prop} {Q : World → Prop} (h : Calls P F av w fun e w' => RB p e ∧ Q w') (hp : p) : Calls P F av w fun e w' => e = .returned (.bool true) ∧ Q w' :=
  h.mono fun e w' ⟨⟨b, he, hb⟩, hq⟩ => ⟨by rw [he, hb.2 hp], hq⟩
theorem rb_no {P : Program} {F : Nat} {av : Array Value} {w : World} {p : Prop} {Q : World → Prop} (h : Calls P F av w fun e w' => RB p e ∧ Q w') (hp : ¬ p) : Calls P F av w fun e w' => e = .returned (.bool false) ∧ Q w' :=
  h.mono fun e w' ⟨⟨b, he, hb⟩, hq⟩ => ⟨by rw [he, Bool.eq_false_iff.2 (fun z => hp (hb.1 z))], hq⟩
theorem take_step {α : Type} {xs : List α} {P : α → Prop} {k : Nat} (hlt : k < xs.length) (h : ∀ x ∈ xs.take k, P x) (z : P xs[k]) : ∀ x ∈ xs.take (k + 1), P x := fun t ht => by
  rw [show xs.take (k + 1) = xs.take k ++ [xs[k]] by rw [List.take_add_one, List.getElem?_eq_getElem hlt]; rfl] at ht
  rcases List.mem_append.1 ht with h' | h'
  · exact h t h'
  · rw [List.mem_singleton] at h'; rw [h']; exact z
set_option maxHeartbeats 4000000 in
theorem meet_spec (a b : Option Addr) (ca cb : Nat) (xs ys : List Int) (w : World) (hn : xs.length ≤ 1048576) (hm : ys.length ≤ 1048576) (ha : RS 1 CI 0 w (.slice a xs.length ca) xs) (hb : RS 1 CI 0 w (.slice b ys.length cb) ys) :
    Calls Try.prog 44 #[.slice a xs.length ca, .slice b ys.length cb] w fun e w' => RB (meetP xs ys) e ∧ Below w.heap.size w w' := by
  obtain ⟨a', ca', he, hva⟩ := ha
  simp only [Value.slice.injEq] at he
  obtain ⟨rfl, _, rfl⟩ := he
  obtain ⟨b', cb', he, hvb⟩ := hb
  simp only [Value.slice.injEq] at he
  obtain ⟨rfl, _, rfl⟩ := he
  go_enter Try.func44, Try.ntmps44
  go_wp2
  go_loopw [11] (fun i wr => ∃ k : Nat, k ≤ xs.length ∧ i = .int .i64 k ∧ Hid (∀ x ∈ xs.take k, x ∉ ys) ∧ Below w.heap.size w wr) (fun i _ => xs.length - (intOf i).toNat)
  case atStart => exact ⟨0, Nat.zero_le _, rfl, (fun x h => by simp at h : ∀ x ∈ xs.take 0, x ∉ ys), Below.refl _ _⟩
  case round =>
    obtain ⟨k, hk, rfl, HO, hbel⟩ := hrel
    have hbs := hbel.size
    by_cases hlt : k < xs.length
    · have hlti : (k : Int) < xs.length := by omega
      obtain ⟨g, o, rfl, _, hg, hgc⟩ := hva (by omega)
      obtain ⟨cs, hC, hcell⟩ := hgc k hlt
      unfold CI at hC
      subst hC
      have c0 : wr.cell? ⟨g, o + k, none⟩ = some (.int .i64 xs[k]) := (hbel.cell (p := ⟨g, o + k, none⟩) hg).trans (by have := hcell 0 (by omega); rw [Nat.mul_one, Nat.add_zero] at this; exact this)
      have HST := hid (take_step (P := fun x => x ∉ ys) hlt HO.out)
      have HY : Hid (xs[k] ∈ ys → meetP xs ys) := (fun h => ⟨_, List.getElem_mem hlt, h⟩ : xs[k] ∈ ys → meetP xs ys)
      clear hgc hva hcell HO
      generalize xs[k] = x at c0 HST HY
      go_wp2
      go_loopw [17] (fun j wr => ∃ l : Nat, l ≤ ys.length ∧ j = .int .i64 l ∧ Hid (∀ y ∈ ys.take l, x ≠ y) ∧ Below w.heap.size w wr) (fun j _ => ys.length - (intOf j).toNat)
      case atStart => exact ⟨0, Nat.zero_le _, rfl, (fun y h => by simp at h : ∀ y ∈ ys.take 0, x ≠ y), hbel⟩
      case round =>
        obtain ⟨l, hl, rfl, HP, hbel2⟩ := hrel
        clear hbel
        by_cases hlt2 : l < ys.length
        · have hlti2 : (l : Int) < ys.length := by omega
          obtain ⟨g2, o2, rfl, _, hg2, hgc2⟩ := hvb (by omega)
          obtain ⟨ds, hD, hcell2⟩ := hgc2 l hlt2
          unfold CI at hD
          subst hD
          have d0 : wr.cell? ⟨g2, o2 + l, none⟩ = some (.int .i64 ys[l]) := (hbel2.cell (p := ⟨g2, o2 + l, none⟩) hg2).trans (by have := hcell2 0 (by omega); rw [Nat.mul_one, Nat.add_zero] at this; exact this)
          have HSU := hid (take_step (P := fun y => x ≠ y) hlt2 HP.out)
          have HYY : Hid (x = ys[l] → meetP xs ys) := (fun h => HY.out (h ▸ List.getElem_mem hlt2) : x = ys[l] → meetP xs ys)
          clear hgc2 hvb hcell2 HP HY
          generalize ys[l] = y at d0 HSU HYY
          by_cases hxy : x = y
          · have HT := hid (HYY.out hxy)
            clear HYY HSU
            go_wp2
            go_ret
            exact ⟨rb_t HT.out, hbel2⟩
          · have HV := hid (HSU.out hxy)
            clear HYY HSU
            go_wp2
            go_roundw
            case rel => exact ⟨l + 1, by omega, by go_num, HV, hbel2⟩
            case measure => simp [intOf]; omega
        · have hln : l = ys.length := by omega
          subst hln
          have hlti2 : ¬ (ys.length : Int) < ys.length := by omega
          have HV := hid (HST.out (fun h => by have := HP.out; rw [List.take_length] at this; exact this x h rfl))
          clear HP HY HST
          go_wp2
          go_roundw
          case rel => exact ⟨k + 1, by omega, by go_num, HV, hbel2⟩
          case measure => simp [intOf]; omega
    · have hkn : k = xs.length := by omega
      subst hkn
      have hlti : ¬ (xs.length : Int) < xs.length := by omega
      have HF : Hid (¬ meetP xs ys) := (fun ⟨x, h1, h2⟩ => by have := HO.out; rw [List.take_length] at this; exact this x h1 h2 : ¬ meetP xs ys)
      clear HO
      go_wp2
      go_ret
      exact ⟨rb_f HF.out, hbel⟩
end Go.Proofs.Ytjfgojlnpbehfaa
