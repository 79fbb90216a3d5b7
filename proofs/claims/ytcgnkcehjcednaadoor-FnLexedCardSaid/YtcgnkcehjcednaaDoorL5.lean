import Derived.Test.YtcgnkcehjcednaaDoorL4
namespace Go.Proofs.YtcgnkcehjcednaaDoor
open Go.ChangeShapes Go.WideShapes Go.ChangeAt Go.RowKit Go.Shelf
set_option linter.unusedVariables false
set_option linter.unusedSimpArgs false
set_option maxRecDepth 100000
/-- What stands between marks from a place on: text and place behind; -1 where it does not end. -/
def BetPost (s : ByteArray) (a : Nat) (q : UInt8) (w : World) (e : Ending) (w' : World) : Prop :=
  (match unq q (s.data.toList.drop (a + 1)) with
   | none => e = .returned (.tuple #[.string ⟨#[]⟩, .int .i64 (-1)])
   | some x => e = .returned (.tuple #[.string ⟨x.1.toArray⟩, .int .i64 ((a + 1 + x.2 : Nat) : Int)])) ∧ Below w.heap.size w w'
theorem BetPost.none {s : ByteArray} {a : Nat} {q : UInt8} {w w' : World} (h : unq q (s.data.toList.drop (a + 1)) = none) (hb : Below w.heap.size w w') : BetPost s a q w (.returned (.tuple #[.string ⟨#[]⟩, .int .i64 (-1)])) w' := by
  unfold BetPost; rw [h]; exact ⟨rfl, hb⟩
theorem BetPost.some {s : ByteArray} {a : Nat} {q : UInt8} {w w' : World} {x : List UInt8} {n : Nat} {p : Int} (h : unq q (s.data.toList.drop (a + 1)) = some (x, n)) (hp : p = ((a + 1 + n : Nat) : Int)) (hb : Below w.heap.size w w') : BetPost s a q w (.returned (.tuple #[.string ⟨x.toArray⟩, .int .i64 p])) w' := by
  unfold BetPost; rw [h, hp]; exact ⟨rfl, hb⟩
theorem get_at (s : ByteArray) (a p : Nat) (h1 : a ≤ p) (h : p < s.size) : (s.data.toList.drop a)[p - a]? = .some (s[p]'h) := by
  rw [List.getElem?_drop]; have : a + (p - a) = p := by omega
  rw [this]; exact bl_get s p h
theorem bcells_snoc (l : List UInt8) (c : UInt8) : bcells (l ++ [c]) = bcells l ++ [.int .u8 (c.toNat : Int)] := by simp [bcells]
set_option maxHeartbeats 2000000 in
theorem between_any (s : ByteArray) (a : Nat) (q : UInt8) (w : World) (hs : s.size ≤ 1048576) (ha : a < s.size) (hq : s[a]'ha = q) :
    Calls Tryd.prog 96 #[.string s, .int .i64 a] w fun e w' => BetPost s a q w e w' := by
  obtain ⟨i0, hi, hz0, hz1, hz2⟩ := info_parts info5
  have hqi : ((s[a]'ha).toNat : Int) = (q.toNat : Int) := by rw [hq]
  have hdr : (s.data.toList.drop a).drop 1 = s.data.toList.drop (a + 1) := List.drop_drop
  have HDR : Hid ((s.data.toList.drop a).drop 1 = s.data.toList.drop (a + 1)) := hdr
  clear hdr
  have hlen : (s.data.toList.drop a).length = s.size - a := by simp
  have HLEN : Hid ((s.data.toList.drop a).length = s.size - a) := hlen
  clear hlen
  go_enter Tryd.func96, Tryd.ntmps96
  go_wp2
  go_loopw [7, 8] (fun v i wr => ∃ (p : Nat) (out : List UInt8), a + 1 ≤ p ∧ p ≤ s.size ∧ i = .int .i64 p ∧ out.length ≤ p ∧ Hid (UnqI q (s.data.toList.drop a) (p - a) out) ∧ wr.ownsRow w.heap.size 5 1 v out.length (bcells out) ∧ Below w.heap.size w wr) (fun _ i _ => s.size - (intOf i).toNat)
  case atStart =>
    exact ⟨a + 1, [], by omega, by omega, by go_num, by simp, by have := UnqI.zero q (s.data.toList.drop a); rw [Nat.add_sub_cancel_left]; exact this, World.ownsRow_made w #[] 0 (Nat.le_refl _) (by unfold maxLen; omega) (by simp), (Below.refl _ _).alloc (Nat.le_refl _) _⟩
  case round =>
    obtain ⟨p, out, hp1, hp2, rfl, hol, HU, hown, hbel⟩ := hrel
    by_cases hlt : p < s.size
    · have HG : Hid ((s.data.toList.drop a)[p - a]? = some (s[p]'hlt)) := get_at s a p (by omega) hlt
      have hi1 : 1 ≤ p - a := by omega
      have hpa : p - a + 1 = p + 1 - a := by omega
      have HPA : Hid (p - a + 1 = p + 1 - a) := hpa
      clear hpa
      by_cases hc : s[p]'hlt = q
      · have hci : ((s[p]'hlt).toNat : Int) = (q.toNat : Int) := by rw [hc]
        have HG' : Hid ((s.data.toList.drop a)[p - a]? = some q) := by have := HG.out; rw [hc] at this; exact this
        clear hc HG
        by_cases hlt2 : p + 1 < s.size
        · have HG2 : Hid ((s.data.toList.drop a)[p + 1 - a]? = some (s[p + 1]'hlt2)) := get_at s a (p + 1) (by omega) hlt2
          have hlt2' : ¬ (s.size : Int) ≤ (p : Int) + 1 := by omega
          by_cases hd : s[p + 1]'hlt2 = q
          · have hdi : ((s[p + 1]'hlt2).toNat : Int) = (q.toNat : Int) := by rw [hd]
            have HG2' : Hid ((s.data.toList.drop a)[p - a + 1]? = some q) := by have := HG2.out; rw [hd] at this; rw [HPA.out]; exact this
            clear hd HG2
            go_wp2_with (at_builtin; refine wpList_append_own _ rfl (.tmp 43) (.tmp 47) 44 rfl w.heap.size 5 i0 (.int .u8 0) 1 1 Tryd.underlying44 hi hz0 hz1 hz2 rfl (by decide) _ _ _ rfl (hown.alloc _) ⟨wr.heap.size, 0, none⟩ 1 1 [.int .u8 (q.toNat : Int)] rfl rfl (cell_one_new _ _ _) (by intro u hu; simp at hu; subst hu; rfl) (by unfold maxLen; omega) (by omega) (by have := hbel.size; simp; omega) ?_; intro v' w1 hown' hgrow _)
            have HB1 : Hid (Below w.heap.size w w1) := (hbel.alloc hbel.size _).grown hgrow (by have := hbel.size; simp; omega) (fun k hk => (hown.lt k hk).1)
            have HO : Hid (w1.ownsRow w.heap.size 5 1 v' (out ++ [q]).length (bcells (out ++ [q]))) := by
              show w1.ownsRow w.heap.size 5 1 v' (out ++ [q]).length (bcells (out ++ [q]))
              rw [bcells_snoc]; simpa using hown'
            clear hown' hgrow hown hbel
            go_wp2
            go_roundw
            case rel => exact ⟨p + 1 + 1, out ++ [q], by omega, by omega, by go_num, by simp; omega, by have := UnqI.twice HU.out hi1 HG'.out HG2'.out; rw [HPA.out] at this; rw [show p + 1 + 1 - a = p + 1 - a + 1 by omega]; exact this, HO.out, HB1.out⟩
            case measure => simp [intOf]; omega
          · have hdi : ¬ ((s[p + 1]'hlt2).toNat : Int) = (q.toNat : Int) := fun z => hd (UInt8.toNat.inj (by omega))
            have HG2' : Hid ((s.data.toList.drop a)[p - a + 1]? ≠ some q) := by
              show (s.data.toList.drop a)[p - a + 1]? ≠ some q
              rw [HPA.out, HG2.out]; intro z; exact hd (Option.some.inj z)
            clear hd HG2
            have hcv := conv_own wr _ _ out hown
            clear hown
            go_wp2
            go_ret2
            exact BetPost.some (by rw [← HDR.out]; exact UnqI.done HU.out hi1 HG'.out HG2'.out) (by omega) hbel
        · have hge : (s.size : Int) ≤ p + 1 := by omega
          have HG2' : Hid ((s.data.toList.drop a)[p - a + 1]? ≠ some q) := by
            show (s.data.toList.drop a)[p - a + 1]? ≠ some q
            rw [List.getElem?_eq_none (by rw [HLEN.out]; omega)]; intro z; cases z
          have hcv := conv_own wr _ _ out hown
          clear hown
          go_wp2
          go_ret2
          exact BetPost.some (by rw [← HDR.out]; exact UnqI.done HU.out hi1 HG'.out HG2'.out) (by omega) hbel
      · have hci : ¬ ((s[p]'hlt).toNat : Int) = (q.toNat : Int) := fun z => hc (UInt8.toNat.inj (by omega))
        go_wp2_with (at_builtin; refine wpList_append_own _ rfl (.tmp 43) (.tmp 47) 44 rfl w.heap.size 5 i0 (.int .u8 0) 1 1 Tryd.underlying44 hi hz0 hz1 hz2 rfl (by decide) _ _ _ rfl (hown.alloc _) ⟨wr.heap.size, 0, none⟩ 1 1 [.int .u8 ((s[p]'hlt).toNat : Int)] rfl rfl (cell_one_new _ _ _) (by intro u hu; simp at hu; subst hu; rfl) (by unfold maxLen; omega) (by omega) (by have := hbel.size; simp; omega) ?_; intro v' w1 hown' hgrow _)
        have HB1 : Hid (Below w.heap.size w w1) := (hbel.alloc hbel.size _).grown hgrow (by have := hbel.size; simp; omega) (fun k hk => (hown.lt k hk).1)
        have HO : Hid (w1.ownsRow w.heap.size 5 1 v' (out ++ [s[p]'hlt]).length (bcells (out ++ [s[p]'hlt]))) := by
          show w1.ownsRow w.heap.size 5 1 v' (out ++ [s[p]'hlt]).length (bcells (out ++ [s[p]'hlt]))
          rw [bcells_snoc]; simpa using hown'
        clear hown' hgrow hown hbel
        go_wp2
        go_roundw
        case rel => exact ⟨p + 1, out ++ [s[p]'hlt], by omega, by omega, by go_num, by simp; omega, by have := UnqI.other HU.out hi1 HG.out hc; rw [HPA.out] at this; exact this, HO.out, HB1.out⟩
        case measure => simp [intOf]; omega
    · go_wp2
      go_ret2
      exact BetPost.none (by rw [← HDR.out]; exact UnqI.none HU.out (by rw [HLEN.out]; omega)) hbel
end Go.Proofs.YtcgnkcehjcednaaDoor
