import Derived.Test.YtbndliedcanmgaaRQA
namespace Go.Proofs.YtbndliedcanmgaaR
open Go.ChangeShapes Go.WideShapes Go.ChangeAt Go.RowKit
set_option linter.unusedVariables false
set_option linter.unusedSimpArgs false
set_option maxRecDepth 100000
def ptrF (q : Nat) : Option Nat → Value
  | some i => .pointer (some ⟨q, 2 + i * 4, none⟩)
  | none => .pointer none
set_option maxHeartbeats 4000000 in
theorem frameOf_any (q : Nat) (l : Int) (fs : List Fr) (h : Nat) (page : Int) (w : World) (P : IPool w q l fs h) (h0 : 0 ≤ page) :
    Calls Try.prog 37 #[.pointer (some ⟨q, 0, none⟩), .int .i64 page] w fun e w' => e = .returned (ptrF q (findP page fs)) ∧ w' = w := by
  have hl := P.len
  have HP := hid P
  have hq := P.qlt
  clear P
  go_enter Try.func37, Try.ntmps37
  go_wp2
  go_loopw [6] (fun iv wr => wr = w ∧ ∃ j : Nat, iv = .int .i64 (j : Int) ∧ j ≤ 8 ∧ Hid (∀ k (hk : k < j) (hj : k < fs.length), fs[k].pg ≠ page)) (fun iv _ => 8 - (intOf iv).toNat)
  case atStart => exact ⟨rfl, 0, rfl, Nat.zero_le _, (fun k hk => by omega : ∀ k (hk : k < 0) (hj : k < fs.length), fs[k].pg ≠ page)⟩
  case round =>
    obtain ⟨rfl, j, rfl, hji, HN⟩ := hrel
    by_cases hlt : j < 8
    · have hj : j < fs.length := by omega
      have hji8 : (j : Int) < 8 := by omega
      obtain ⟨⟨d0, d1, d2, d3⟩, f0, f1, f2, f3⟩ := HP.out.frs j hj
      by_cases hp : fs[j].pg = page
      · have HE : Hid (findP page fs = some j) := findP_some hj hp (fun k hk => HN.out k hk (by omega))
        have e0 : pgC fs[j] = page := by unfold pgC; rw [if_neg (by omega)]; exact hp
        have e1 : tkC fs[j] = true := by unfold tkC; simp; omega
        rw [e0] at d0
        rw [e1] at d1
        clear e0 e1 hp HN
        go_wp2
        go_ret
        rw [HE.out]
        exact ⟨rfl, rfl⟩
      · have HN2 : Hid (∀ k (hk : k < j + 1) (hj : k < fs.length), fs[k].pg ≠ page) := (fun k hk hf => by
          by_cases e : k = j
          · subst e; exact hp
          · exact HN.out k (by omega) hf : ∀ k (hk : k < j + 1) (hj : k < fs.length), fs[k].pg ≠ page)
        by_cases ht : fs[j].pg < 0
        · have e1 : tkC fs[j] = false := by unfold tkC; simp; omega
          rw [e1] at d1
          clear e1 hp HN ht
          generalize pgC fs[j] = p0 at d0
          go_wp2
          go_roundw
          case rel => exact ⟨trivial, j + 1, by go_num, by omega, HN2⟩
          case measure => simp [intOf]; omega
        · have e1 : tkC fs[j] = true := by unfold tkC; simp; omega
          have e0 : (pgC fs[j] == page) = false := by unfold pgC; rw [if_neg ht]; simpa using hp
          rw [e1] at d1
          clear e1 hp HN ht
          generalize pgC fs[j] = p0 at d0 e0
          go_wp2
          go_roundw
          case rel => exact ⟨trivial, j + 1, by go_num, by omega, HN2⟩
          case measure => simp [intOf]; omega
    · have hji8 : ¬ (j : Int) < 8 := by omega
      have HE : Hid (findP page fs = none) := findP_none (fun f hf => by
        obtain ⟨k, hk, rfl⟩ := List.getElem_of_mem hf
        exact HN.out k (by omega) hk)
      go_wp2
      go_ret
      rw [HE.out]
      exact ⟨rfl, rfl⟩
end Go.Proofs.YtbndliedcanmgaaR
