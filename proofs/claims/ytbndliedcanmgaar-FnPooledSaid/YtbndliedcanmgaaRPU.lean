import Derived.Test.YtbndliedcanmgaaRPO
namespace Go.Proofs.YtbndliedcanmgaaR
open Go.ChangeShapes Go.WideShapes Go.ChangeAt Go.RowKit
set_option linter.unusedVariables false
set_option linter.unusedSimpArgs false
set_option maxRecDepth 100000
def UseP (q g cap : Nat) (i : Nat) (th : Bool) (wr : Int) (fs : List Fr) (h : Nat) (w : World) (e : Ending) (w' : World) : Prop := e = .returned (.tuple #[.int .i64 (i : Int), .bool th, .int .i64 wr]) ∧ Pool w' q g cap fs h ∧ U2 q g w w'
set_option maxHeartbeats 4000000 in
theorem use_hit (q g cap : Nat) (fs : List Fr) (h : Nat) (page : Int) (w : World) (P : Pool w q g cap fs h) (i : Nat) (hi : i < fs.length) (hp : fs[i].pg = page) (hn : ∀ j (hj : j < i), (fs[j]'(by omega)).pg ≠ page) :
    Calls Try.prog 19 #[.pointer (some ⟨q, 0, none⟩), .int .i64 page] w fun e w' => UseP q g cap i true (-1) (fs.set i (fs[i].m true)) h w e w' := by
  have c0 := P.blk.1.1
  have hl := P.len
  have HP := hid P
  have HI := hid hi
  have HPI := hid hp
  have HNI := hid hn
  have i8 : i < 8 := by omega
  clear hp hn
  go_enter Try.func19, Try.ntmps19
  go_wp2
  go_loopw [16] (fun iv wr => ∃ j : Nat, iv = .int .i64 (j : Int) ∧ j ≤ i ∧ Below w.heap.size w wr) (fun iv _ => 8 - (intOf iv).toNat)
  case atStart => exact ⟨0, rfl, Nat.zero_le _, Below.refl _ _⟩
  case round =>
    obtain ⟨j, rfl, hji, hb⟩ := hrel
    have hbs := hb.size
    have Pr := HP.out.below hb
    have hj : j < fs.length := by omega
    have hji8 : (j : Int) < 8 := by omega
    obtain ⟨⟨d0, d1, d2⟩, f0, f1, f2⟩ := Pr.frs j hj
    have e0 := Pr.blk.1.1
    have hgl := Pr.glt
    by_cases hlt : j < i
    · have hne : (fs[j].pg == page) = false := by have := HNI.out j hlt; simpa using this
      generalize fs[j].pg = p0 at *
      generalize fs[j].ma = p1 at *
      generalize fs[j].dy = p2 at *
      clear Pr c0
      go_wp2
      go_roundw
      case rel => exact ⟨j + 1, by go_num, by omega, by (go_light; repeat (first | with_reducible assumption | with_reducible exact Below.refl _ _ | (with_reducible refine Below.setCell ?_ ?_ _; rotate_left; (focus first | (simp; done) | (simp; omega) | omega)) | (with_reducible refine Below.alloc ?_ ?_ _; rotate_left; (focus first | (simp; done) | (simp; omega) | omega)) | with_reducible refine Below.drew ?_))⟩
      case measure => simp [intOf]; omega
    · have hje : j = i := by omega
      subst hje
      have heq : (fs[j].pg == page) = true := beq_iff_eq.2 HPI.out
      have PS := hid (Pr.setM j hj true)
      have HUU : Hid (U2 q g w (wr.setCell ⟨g, j * 3 + 1, none⟩ (.bool true))) := (U2.below hb).setG
      have hqr := Pr.qlt
      generalize fs[j].pg = p0 at d0 heq
      generalize fs[j].ma = p1 at d1
      generalize fs[j].dy = p2 at d2
      clear Pr c0 HP HPI HNI
      go_wp2
      refine bodyPost_ret (v := .tuple #[.int .i64 (j : Int), .bool true, .int .i64 (-1)]) (by simp [results, Try.results19, go_sem]) rfl ⟨rfl, PS.out.below (below_alloc _ _), HUU.out.alloc⟩
end Go.Proofs.YtbndliedcanmgaaR
