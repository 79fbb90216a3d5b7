import Derived.Test.YtjpcgnkgdaphoaaDoorL5
import Derived.Test.YtjpcgnkgdaphoaaDoorS2
namespace Go.Proofs.YtjpcgnkgdaphoaaDoor
open Go.ChangeShapes Go.WideShapes Go.ChangeAt Go.RowKit Go.Shelf
set_option linter.unusedVariables false
set_option linter.unusedSimpArgs false
set_option maxRecDepth 100000
/-- What stands between a text's first byte and the same byte behind it. -/
def UnqPost (s : ByteArray) (q : UInt8) (w : World) (e : Ending) (w' : World) : Prop :=
  (match unq q (s.data.toList.drop 1) with
   | none => e = .returned (.tuple #[.string ⟨#[]⟩, .int .i64 0, .bool false])
   | some x => e = .returned (.tuple #[.string ⟨x.1.toArray⟩, .int .i64 ((x.2 + 1 : Nat) : Int), .bool true])) ∧ Below w.heap.size w w'
theorem UnqPost.none {s : ByteArray} {q : UInt8} {w w' : World} (h : unq q (s.data.toList.drop 1) = none) (hb : Below w.heap.size w w') : UnqPost s q w (.returned (.tuple #[.string ⟨#[]⟩, .int .i64 0, .bool false])) w' := by
  unfold UnqPost; rw [h]; exact ⟨rfl, hb⟩
theorem UnqPost.some {s : ByteArray} {q : UInt8} {w w' : World} {x : List UInt8} {n : Nat} {p : Int} (h : unq q (s.data.toList.drop 1) = some (x, n)) (hp : p = ((n + 1 : Nat) : Int)) (hb : Below w.heap.size w w') : UnqPost s q w (.returned (.tuple #[.string ⟨x.toArray⟩, .int .i64 p, .bool true])) w' := by
  unfold UnqPost; rw [h, hp]; exact ⟨rfl, hb⟩
theorem bc_snoc (l : List UInt8) (c : UInt8) : Lib.byteCells (l ++ [c]) = Lib.byteCells l ++ [.int .u8 (c.toNat : Int)] := by simp [Lib.byteCells]
theorem builder_new (w : World) : Lib.IsBuilder 68 5 w.heap.size w.heap.size [] (w.alloc (.cells #[.pointer none, .slice none 0 0] 68)) :=
  .inl ⟨Nat.le_refl _, .slice none 0 0, heap_alloc_new w _, ⟨rfl, .inl ⟨rfl, rfl⟩⟩, by simp [Value.ownBlock]⟩
theorem isb_drewN {T e : TypeId} {B b : Nat} {bs : List Value} {w : World} (h : Lib.IsBuilder T e B b bs w) : ∀ n, Lib.IsBuilder T e B b bs (w.drewN n)
  | 0 => h
  | n + 1 => by have := isb_drewN h n; exact this.imp (fun x => x.drew) (fun x => x.drew)
theorem below_drewN {B : Nat} {w w' : World} (h : Below B w w') : ∀ n, Below B w (w'.drewN n)
  | 0 => h
  | n + 1 => (below_drewN h n).drew
set_option maxHeartbeats 2000000 in
theorem unquoted_any (s : ByteArray) (q : UInt8) (w : World) (hs : s.size ≤ 1048576) (h0 : 0 < s.size) (hq : s[0]'h0 = q) :
    Calls Tryd.prog 44 #[.string s] w fun e w' => UnqPost s q w e w' := by
  have hqi : ((s[0]'h0).toNat : Int) = (q.toNat : Int) := by rw [hq]
  have HLEN : Hid (s.data.toList.length = s.size) := by show s.data.toList.length = s.size; simp
  have h0' : (0 : Int) < s.size := by omega
  go_enter Tryd.func44, Tryd.ntmps44
  go_wp2
  go_loopw [6] (fun i wr => ∃ (p : Nat) (out : List UInt8), 1 ≤ p ∧ p ≤ s.size ∧ i = .int .i64 p ∧ out.length ≤ p ∧ Hid (UnqI q s.data.toList p out) ∧ Lib.IsBuilder 68 5 w.heap.size w.heap.size (Lib.byteCells out) wr ∧ Below w.heap.size w wr) (fun i _ => s.size - (intOf i).toNat)
  case atStart =>
    exact ⟨1, [], by omega, by omega, rfl, by simp, UnqI.zero q s.data.toList, builder_new w, (Below.refl _ _).alloc (Nat.le_refl _) _⟩
  case round =>
    obtain ⟨p, out, hp1, hp2, rfl, hol, HU, hbu, hbel⟩ := hrel
    have hbs := hbel.size
    by_cases hlt : p < s.size
    · have HG : Hid (s.data.toList[p]? = some (s[p]'hlt)) := bl_get s p hlt
      have hlti : (p : Int) < s.size := by omega
      by_cases hc : s[p]'hlt = q
      · have hci : ((s[p]'hlt).toNat : Int) = (q.toNat : Int) := by rw [hc]
        have HG' : Hid (s.data.toList[p]? = some q) := by have := HG.out; rw [hc] at this; exact this
        clear hc HG
        by_cases hlt2 : p + 1 < s.size
        · have HG2 : Hid (s.data.toList[p + 1]? = some (s[p + 1]'hlt2)) := bl_get s (p + 1) hlt2
          have hlt2' : (p : Int) + 1 < s.size := by omega
          have hne2 : (((p : Int) + 1) == (s.size : Int)) = false := by rw [beq_eq_false_iff_ne]; omega
          by_cases hd : s[p + 1]'hlt2 = q
          · have hdi : ((s[p + 1]'hlt2).toNat : Int) = (q.toNat : Int) := by rw [hd]
            have HG2' : Hid (s.data.toList[p + 1]? = some q) := by have := HG2.out; rw [hd] at this; exact this
            clear hd HG2
            go_wp2
            go_quiet (fail)
            go_wp2
            go_quiet (fail)
            go_wp2_with (go_at_call 59; refine (Tryd.Builder_WriteByte _ _ (Lib.byteCells out) _ _ (isb_drewN hbu _) (by rw [Lib.byteCells_length]; omega) (below_drewN hbel _).size).mono ?_; rintro e w1 ⟨rfl, hAt, hb1⟩)
            have HB1 : Hid (Below w.heap.size w w1) := (below_drewN hbel _).trans hb1
            have HO : Hid (Lib.IsBuilder 68 5 w.heap.size w.heap.size (Lib.byteCells (out ++ [q])) w1) := .inr (by rw [bc_snoc]; exact hAt)
            clear hAt hb1 hbu hbel
            go_wp2
            go_roundw
            case rel => exact ⟨p + 1 + 1, out ++ [q], by omega, by omega, by go_num, by simp; omega, UnqI.twice HU.out hp1 HG'.out HG2'.out, HO.out, HB1.out⟩
            case measure => simp [intOf]; omega
          · have hdi0 : ¬ ((s[p + 1]'hlt2).toNat : Int) = (q.toNat : Int) := fun z => hd (UInt8.toNat.inj (by omega))
            obtain ⟨d, hdd⟩ : ∃ d : Int, ((s[p + 1]'hlt2).toNat : Int) = d := ⟨_, rfl⟩
            have hdi : (d == (q.toNat : Int)) = false := by rw [beq_eq_false_iff_ne, ← hdd]; exact hdi0
            have hdi2 : (d != (q.toNat : Int)) = true := by rw [bne_iff_ne, ← hdd]; exact hdi0
            clear hdi0
            have HG2' : Hid (s.data.toList[p + 1]? ≠ some q) := by
              show s.data.toList[p + 1]? ≠ some q
              rw [HG2.out]; intro z; exact hd (Option.some.inj z)
            clear hd HG2
            go_wp2
            go_quiet (fail)
            go_wp2
            go_quiet (fail)
            go_wp2_with (go_at_call 58; refine (Tryd.Builder_String_any _ _ out _ (isb_drewN hbu _) (below_drewN hbel _).size).mono ?_; rintro e w1 ⟨rfl, hb1⟩)
            go_ret3
            exact UnqPost.some (UnqI.done HU.out hp1 HG'.out HG2'.out) (by omega) ((below_drewN hbel _).trans hb1)
        · have heq2 : (((p : Int) + 1) == (s.size : Int)) = true := by rw [beq_iff_eq]; omega
          have HG2' : Hid (s.data.toList[p + 1]? ≠ some q) := by
            show s.data.toList[p + 1]? ≠ some q
            rw [List.getElem?_eq_none (by rw [HLEN.out]; omega)]; intro z; cases z
          go_wp2
          go_quiet (fail)
          go_wp2
          go_quiet (fail)
          go_wp2_with (go_at_call 58; refine (Tryd.Builder_String_any _ _ out _ (isb_drewN hbu _) (below_drewN hbel _).size).mono ?_; rintro e w1 ⟨rfl, hb1⟩)
          go_ret3
          exact UnqPost.some (UnqI.done HU.out hp1 HG'.out HG2'.out) (by omega) ((below_drewN hbel _).trans hb1)
      · have hci : ((((s[p]'hlt).toNat : Int)) == (q.toNat : Int)) = false := by
          rw [beq_eq_false_iff_ne]; exact fun z => hc (UInt8.toNat.inj (by omega))
        go_wp2
        go_quiet (fail)
        go_wp2_with (go_at_call 59; refine (Tryd.Builder_WriteByte _ _ (Lib.byteCells out) _ _ (isb_drewN hbu _) (by rw [Lib.byteCells_length]; omega) (below_drewN hbel _).size).mono ?_; rintro e w1 ⟨rfl, hAt, hb1⟩)
        have HB1 : Hid (Below w.heap.size w w1) := (below_drewN hbel _).trans hb1
        have HO : Hid (Lib.IsBuilder 68 5 w.heap.size w.heap.size (Lib.byteCells (out ++ [s[p]'hlt])) w1) := .inr (by rw [bc_snoc]; exact hAt)
        clear hAt hb1 hbu hbel
        go_wp2
        go_roundw
        case rel => exact ⟨p + 1, out ++ [s[p]'hlt], by omega, by omega, by go_num, by simp; omega, UnqI.other HU.out hp1 HG.out hc, HO.out, HB1.out⟩
        case measure => simp [intOf]; omega
    · go_wp2
      go_ret3
      exact UnqPost.none (UnqI.none HU.out (by rw [HLEN.out]; omega)) hbel
end Go.Proofs.YtjpcgnkgdaphoaaDoor
