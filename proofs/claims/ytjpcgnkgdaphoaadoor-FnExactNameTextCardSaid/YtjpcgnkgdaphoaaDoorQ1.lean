import Derived.Test.YtjpcgnkgdaphoaaDoorX1
import Derived.Test.YtjpcgnkgdaphoaaDoorS3
import Derived.Lib.IndexBytes
import Derived.Lib.Join
import Derived.Maps.Own
import Derived.Maps.OwnOps
import Derived.Maps.OwnSet
import Derived.Maps.Views
namespace Go.Proofs.YtjpcgnkgdaphoaaDoor
open Go.ChangeShapes Go.WideShapes Go.ChangeAt Go.RowKit Go.Shelf Go.Maps
set_option linter.unusedVariables false
set_option linter.unusedSimpArgs false
set_option maxRecDepth 100000
def resWords : List (List UInt8) := [[97, 108, 108], [97, 110, 100], [97, 115], [97, 115, 99], [97, 118, 103], [98, 101, 103, 105, 110], [98, 101, 116, 119, 101, 101, 110], [98, 121], [98, 111, 111, 108, 101, 97, 110], [99, 97, 115, 101], [99, 97, 115, 116], [99, 104, 101, 99, 107], [99, 104, 101, 99, 107, 112, 111, 105, 110, 116], [99, 111, 109, 109, 105, 116], [99, 111, 117, 110, 116], [99, 114, 101, 97, 116, 101], [99, 114, 111, 115, 115], [100, 97, 116, 101], [100, 101, 99, 105, 109, 97, 108], [100, 101, 102, 97, 117, 108, 116], [100, 101, 108, 101, 116, 101], [100, 101, 115, 99], [100, 105, 115, 116, 105, 110, 99, 116], [100, 114, 111, 112], [101, 108, 115, 101], [101, 110, 100], [101, 120, 99, 101, 112, 116], [101, 120, 105, 115, 116, 115], [101, 120, 112, 108, 97, 105, 110], [102, 97, 108, 115, 101], [102, 105, 114, 115, 116], [102, 114, 111, 109], [103, 114, 111, 117, 112], [104, 97, 118, 105, 110, 103], [105, 110], [105, 110, 100, 101, 120], [105, 110, 110, 101, 114], [105, 110, 115, 101, 114, 116], [105, 110, 116], [105, 110, 116, 111], [105, 115], [106, 111, 105, 110], [107, 101, 121], [108, 97, 115, 116], [108, 101, 102, 116], [108, 105, 107, 101], [108, 105, 109, 105, 116], [109, 97, 120], [109, 105, 110], [110, 111, 116], [110, 117, 108, 108], [110, 117, 108, 108, 115], [111, 102, 102, 115, 101, 116], [111, 110], [111, 114], [111, 114, 100, 101, 114], [111, 117, 116, 101, 114], [112, 114, 105, 109, 97, 114, 121], [114, 101, 108, 101, 97, 115, 101], [114, 111, 108, 108, 98, 97, 99, 107], [115, 97, 118, 101, 112, 111, 105, 110, 116], [115, 101, 108, 101, 99, 116], [115, 101, 114, 105, 97, 108, 105, 122, 97, 98, 108, 101], [115, 101, 116], [115, 110, 97, 112, 115, 104, 111, 116], [115, 117, 109], [116, 97, 98, 108, 101], [116, 101, 120, 116], [116, 104, 101, 110], [116, 111], [116, 114, 117, 101], [117, 110, 105, 111, 110], [117, 110, 105, 113, 117, 101], [117, 112, 100, 97, 116, 101], [118, 97, 108, 117, 101, 115], [119, 104, 101, 110], [119, 104, 101, 114, 101]]
def resText : ByteArray := ⟨#[97, 108, 108, 32, 97, 110, 100, 32, 97, 115, 32, 97, 115, 99, 32, 97, 118, 103, 32, 98, 101, 103, 105, 110, 32, 98, 101, 116, 119, 101, 101, 110, 32, 98, 121, 32, 98, 111, 111, 108, 101, 97, 110, 32, 99, 97, 115, 101, 32, 99, 97, 115, 116, 32, 99, 104, 101, 99, 107, 32, 99, 104, 101, 99, 107, 112, 111, 105, 110, 116, 32, 99, 111, 109, 109, 105, 116, 32, 99, 111, 117, 110, 116, 32, 99, 114, 101, 97, 116, 101, 32, 99, 114, 111, 115, 115, 32, 100, 97, 116, 101, 32, 100, 101, 99, 105, 109, 97, 108, 32, 100, 101, 102, 97, 117, 108, 116, 32, 100, 101, 108, 101, 116, 101, 32, 100, 101, 115, 99, 32, 100, 105, 115, 116, 105, 110, 99, 116, 32, 100, 114, 111, 112, 32, 101, 108, 115, 101, 32, 101, 110, 100, 32, 101, 120, 99, 101, 112, 116, 32, 101, 120, 105, 115, 116, 115, 32, 101, 120, 112, 108, 97, 105, 110, 32, 102, 97, 108, 115, 101, 32, 102, 105, 114, 115, 116, 32, 102, 114, 111, 109, 32, 103, 114, 111, 117, 112, 32, 104, 97, 118, 105, 110, 103, 32, 105, 110, 32, 105, 110, 100, 101, 120, 32, 105, 110, 110, 101, 114, 32, 105, 110, 115, 101, 114, 116, 32, 105, 110, 116, 32, 105, 110, 116, 111, 32, 105, 115, 32, 106, 111, 105, 110, 32, 107, 101, 121, 32, 108, 97, 115, 116, 32, 108, 101, 102, 116, 32, 108, 105, 107, 101, 32, 108, 105, 109, 105, 116, 32, 109, 97, 120, 32, 109, 105, 110, 32, 110, 111, 116, 32, 110, 117, 108, 108, 32, 110, 117, 108, 108, 115, 32, 111, 102, 102, 115, 101, 116, 32, 111, 110, 32, 111, 114, 32, 111, 114, 100, 101, 114, 32, 111, 117, 116, 101, 114, 32, 112, 114, 105, 109, 97, 114, 121, 32, 114, 101, 108, 101, 97, 115, 101, 32, 114, 111, 108, 108, 98, 97, 99, 107, 32, 115, 97, 118, 101, 112, 111, 105, 110, 116, 32, 115, 101, 108, 101, 99, 116, 32, 115, 101, 114, 105, 97, 108, 105, 122, 97, 98, 108, 101, 32, 115, 101, 116, 32, 115, 110, 97, 112, 115, 104, 111, 116, 32, 115, 117, 109, 32, 116, 97, 98, 108, 101, 32, 116, 101, 120, 116, 32, 116, 104, 101, 110, 32, 116, 111, 32, 116, 114, 117, 101, 32, 117, 110, 105, 111, 110, 32, 117, 110, 105, 113, 117, 101, 32, 117, 112, 100, 97, 116, 101, 32, 118, 97, 108, 117, 101, 115, 32, 119, 104, 101, 110, 32, 119, 104, 101, 114, 101]⟩
def resB : List ByteArray := resWords.map fun l => ⟨l.toArray⟩
theorem res_count : Lib.countB resText ⟨#[32]⟩ = 76 := by kernel_rfl
theorem indexByte_in (t : List UInt8) : ∀ w : List UInt8, (32 : UInt8) ∉ w → Lib.indexByte (w ++ 32 :: t) 32 = (w.length : Int)
  | [], _ => by simp [Lib.indexByte]
  | c :: w, h => by
    have ih := indexByte_in t w (fun z => h (List.mem_cons_of_mem _ z))
    have hc : ¬ c = 32 := fun z => h (by rw [z]; exact List.mem_cons_self)
    rw [List.cons_append, Lib.indexByte, ih]
    have h1 : (c == 32) = false := by rw [beq_eq_false_iff_ne]; exact hc
    have h2 : (((w.length : Int)) == -1) = false := by rw [beq_eq_false_iff_ne]; omega
    rw [h1, h2]; simp
theorem splitK_join : ∀ (ws : List (List UInt8)), ws ≠ [] → (∀ w ∈ ws, (32 : UInt8) ∉ w) → Lib.splitK [32] 0 (ws.length - 1) (Lib.join ws [32]) = ws
  | [], h, _ => absurd rfl h
  | [w], _, _ => by rw [Lib.join_one]; rfl
  | w :: u :: r, _, h => by
    have ih := splitK_join (u :: r) (by simp) (fun x hx => h x (List.mem_cons_of_mem _ hx))
    have hj : Lib.join (w :: u :: r) [32] = w ++ 32 :: Lib.join (u :: r) [32] := by
      rw [Lib.join_cons, Lib.join_cons]; simp [Lib.joinTail]
    have hi : Lib.index (w ++ 32 :: Lib.join (u :: r) [32]) [32] = (w.length : Int) := by
      rw [Lib.index_one]; exact indexByte_in _ w (h w List.mem_cons_self)
    rw [hj]
    show Lib.splitK [32] 0 (r.length + 1) _ = _
    rw [Lib.splitK, hi]
    have h2 : (((w.length : Int)) == -1) = false := by rw [beq_eq_false_iff_ne]; omega
    rw [h2]
    simp only [Bool.false_eq_true, if_false, Int.toNat_natCast, Nat.add_zero, List.take_left, List.length_cons, List.length_nil, Nat.zero_add]
    rw [← List.drop_drop, List.drop_left]
    simp only [List.drop_succ_cons, List.drop_zero]
    congr 1
theorem res_joined : resText.data.toList = Lib.join resWords [32] := by kernel_rfl
theorem res_no32 : ∀ w ∈ resWords, (32 : UInt8) ∉ w := by
  have h : resWords.all (fun w => !w.contains 32) = true := by kernel_rfl
  intro w hw
  have := List.all_eq_true.1 h w hw
  simpa using this
theorem res_split : Lib.splitB ⟨#[32]⟩ 0 76 resText = resB := by
  have h := Lib.splitB_data ⟨#[32]⟩ 0 76 resText
  rw [res_joined] at h
  have h2 := splitK_join resWords (by intro z; cases z) res_no32
  have h3 : (Lib.splitB ⟨#[32]⟩ 0 76 resText).map (·.data.toList) = resWords := h.trans h2
  unfold resB
  rw [← h3, List.map_map]
  conv => lhs; rw [← List.map_id (Lib.splitB ⟨#[32]⟩ 0 76 resText)]
  apply List.map_congr_left
  intro a _
  exact (ba_mk a).symm
theorem res_len : resB.length = 77 := by kernel_rfl
theorem split_any (t : ByteArray) (ht : t = resText) (m : Int) (W : World) (hm : W.cell? ⟨0, 0, none⟩ = some (.int .i64 m)) :
    Calls Tryd.prog 14 #[.string t, .string ⟨#[32]⟩] W fun e w' => e = .returned (.slice (some ⟨W.heap.size, 0, none⟩) 77 77) ∧ w' = W.alloc (.cells (resB.map Value.string).toArray 9) := by
  subst ht
  have h := Tryd.strings_Split resText ⟨#[32]⟩ m W (by decide) hm (by decide)
  rw [res_count, res_split] at h
  exact h
end Go.Proofs.YtjpcgnkgdaphoaaDoor
