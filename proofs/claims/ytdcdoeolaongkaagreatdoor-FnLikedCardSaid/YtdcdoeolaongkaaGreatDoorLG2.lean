import Derived.Test.YtdcdoeolaongkaaGreatDoorLG1
import Derived.Test.YtdcdoeolaongkaaGreatDoorEG
import Derived.Test.YtdcdoeolaongkaaGreatDoorR0
import Derived.Test.YtdcdoeolaongkaaGreatDoorMB
import Derived.Test.YtdcdoeolaongkaaGreatDoorW1
import Derived.Deep.RegionWith
import Derived.Test.YtdcdoeolaongkaaGreatDoorC2
import Derived.Test.YtdcdoeolaongkaaGreatDoorCW1
import Derived.Test.YtdcdoeolaongkaaGreatDoorW4
import Derived.Deep.RegionHeld3
namespace Go.Proofs.YtdcdoeolaongkaaGreatDoor
namespace Lk
open Go.ChangeShapes Go.WideShapes Go.ChangeAt Go.RowKit
set_option linter.unusedVariables false
set_option linter.unusedSimpArgs false
set_option maxRecDepth 100000
def ints (l : List Nat) : List Int := l.map Int.ofNat
theorem ints_app (a b : List Nat) : ints (a ++ b) = ints a ++ ints b := by simp [ints]
theorem bytes_strOf {l : List Nat} (h : ∀ x ∈ l, x < 256) : bytesN (strOfNums (ints l)) 0 = l := by
  unfold bytesN
  rw [List.drop_zero, strOfNums_data]
  induction l with
  | nil => rfl
  | cons a l ih =>
    have ha := h a (by simp)
    have := ih (fun x hx => h x (by simp [hx]))
    simp only [ints, List.map_cons] at this ⊢
    rw [this]
    congr 1
    show (UInt8.ofNat (Int.ofNat a).toNat).toNat = a
    simp; omega
theorem escB_lt {l : List Nat} (h : ∀ x ∈ l, x < 256) : ∀ x ∈ escB l, x < 256 := by
  intro x hx
  unfold escB at hx
  rw [List.mem_flatMap] at hx
  obtain ⟨b, hb, hx⟩ := hx
  have := h b hb
  split at hx
  · simp at hx; omega
  · simp at hx; omega
theorem escB_len : ∀ (l : List Nat), (escB l).length ≤ 2 * l.length
  | [] => by simp [escB]
  | a :: l => by
    have := escB_len l
    have e : escB (a :: l) = (if a = 37 ∨ a = 95 ∨ a = 92 then [92, a] else [a]) ++ escB l := rfl
    rw [e, List.length_append, List.length_cons]
    split
    · simp only [List.length_cons, List.length_nil]; omega
    · simp only [List.length_cons, List.length_nil]; omega
theorem bytesN_lt (s : ByteArray) (p : Nat) : ∀ x ∈ bytesN s p, x < 256 := by
  intro x hx
  unfold bytesN at hx
  obtain ⟨b, _, rfl⟩ := List.mem_map.1 hx
  exact b.toNat_lt
theorem bytesN_len (s : ByteArray) : (bytesN s 0).length = s.size := by
  unfold bytesN; rw [List.length_map, List.length_drop, Rd.len_eq]; rfl
/-- The bytes escaped so far. -/
def escTo (s : ByteArray) (k : Nat) : List Nat := escB ((s.data.toList.take k).map UInt8.toNat)
theorem escTo_full (s : ByteArray) : escTo s s.size = escB (bytesN s 0) := by
  unfold escTo bytesN; rw [Rd.take_full, List.drop_zero]
theorem escTo_sign {s : ByteArray} {k : Nat} (h : k < s.size) {c : Nat} (e : (s[k]'h).toNat = c) (hc : c = 37 ∨ c = 95 ∨ c = 92) : escTo s (k + 1) = escTo s k ++ [92] ++ [c] := by
  unfold escTo
  rw [Rd.take_snoc s k h, List.map_append, escB_app, List.append_assoc]
  congr 1
  simp only [List.map_cons, List.map_nil, e]
  unfold escB
  rw [List.flatMap_cons, if_pos hc]; rfl
theorem escTo_else {s : ByteArray} {k : Nat} (h : k < s.size) {c : Nat} (e : (s[k]'h).toNat = c) (hc : ¬ (c = 37 ∨ c = 95 ∨ c = 92)) : escTo s (k + 1) = escTo s k ++ [c] := by
  unfold escTo
  rw [Rd.take_snoc s k h, List.map_append, escB_app]
  congr 1
  simp only [List.map_cons, List.map_nil, e]
  unfold escB
  rw [List.flatMap_cons, if_neg hc]; rfl
theorem escTo_len (s : ByteArray) (k : Nat) (h : k ≤ s.size) : (escTo s k).length ≤ 2 * k := by
  have := escB_len ((s.data.toList.take k).map UInt8.toNat)
  have e : ((s.data.toList.take k).map UInt8.toNat).length = k := by simp [Rd.len_eq]; omega
  unfold escTo; omega
/-- A row of bytes that is ours. -/
def OwnB (w : World) (v : Value) (l : List Nat) (wr : World) : Prop :=
  wr.ownsRow w.heap.size 5 1 v l.length ((ints l).map (Value.int .u8)) ∧ v ≠ .slice none 0 0 ∧ Below w.heap.size w wr
theorem OwnB.grow {w wr w1 : World} {v v' : Value} {l : List Nat} {x : Nat} (h : OwnB w v l wr) (o : Obj)
    (ho : w1.ownsRow w.heap.size 5 1 v' (l.length + 1) ((ints l).map (Value.int .u8) ++ [.int .u8 (x : Int)])) (hg : (wr.alloc o).grownBy w1 v.ownBlock) : OwnB w v' (l ++ [x]) w1 := by
  obtain ⟨h1, h2, h3⟩ := h
  refine ⟨by rw [ints_app]; simpa [ints] using ho, ?_, ?_⟩
  · rintro rfl
    rcases ho.2 with ⟨_, h0⟩ | ⟨g, cap, cur, e, _⟩
    · omega
    · cases e
  · exact (h3.alloc h3.size o).grown hg (by have := h3.size; simp; omega) (fun k hk => (h1.lt k hk).1)
/-- The text that such a row becomes. -/
theorem OwnB.text {w wr : World} {v : Value} {l : List Nat} (h : OwnB w v l wr) (hl : ∀ x ∈ l, x < 256) : ∃ t : ByteArray, bytesN t 0 = l ∧ t.size = l.length ∧ (convert 27 9 v).run Tryz.prog wr = .ok (.string t) wr := by
  obtain ⟨h1, h2, h3⟩ := h
  have h0 := h1
  obtain ⟨hlen, hcase⟩ := h0
  rcases hcase with ⟨rfl, _⟩ | ⟨g, cap, cur, rfl, _⟩
  · exact absurd rfl h2
  have hcells : ∀ i, i < l.length → wr.cell? ⟨g, 0 + i, none⟩ = some (.int .u8 ((ints l).getD i 0)) := fun i hi => by
    have := h1.cells (g := g) rfl i (.int .u8 ((ints l).getD i 0)) (by simp [List.getD, ints, hi])
    simp only [Addr.add] at this
    by_cases e : i = 0
    · subst e; simpa using this
    · simpa [e] using this
  have hcv := run_convert_bytes_arg (P := Tryz.prog) wr 27 5 Tryz.underlying27 Tryz.underlying5 g 0 l.length cap (ints l) (by simp [ints]) hcells 9 Tryz.underlying9
  exact ⟨_, bytes_strOf hl, by rw [Dr.strOf_size]; simp [ints], hcv⟩
theorem OwnB.start (w : World) : OwnB w (.slice (some ⟨w.heap.size, 0, none⟩) 0 0) [] (w.alloc (.cells #[] 5)) :=
  ⟨World.ownsRow_made w #[] 0 (Nat.le_refl _) (by unfold maxLen; omega) (by simp), by simp, (Below.refl _ _).alloc (Nat.le_refl _) _⟩
set_option maxHeartbeats 4000000 in
theorem escaped_any (s : ByteArray) (w : World) (hs : s.size ≤ 1048576) : Calls Tryz.prog 28 #[.string s] w fun e w' => ∃ t : ByteArray, bytesN t 0 = escB (bytesN s 0) ∧ e = .returned (.string t) ∧ Below w.heap.size w w' := by
  obtain ⟨i0, hi, hz0, hz1, hz2⟩ := info_parts Dr.info5
  go_enter Tryz.func28, Tryz.ntmps28
  go_wp2
  go_loopw [3, 4] (fun v i wr => ∃ k : Nat, k ≤ s.size ∧ i = .int .i64 k ∧ OwnB w v (escTo s k) wr) (fun _ i _ => s.size - (intOf i).toNat)
  case atStart => exact ⟨0, by omega, rfl, OwnB.start w⟩
  case round =>
    obtain ⟨k, hk, rfl, hO⟩ := hrel
    have hll := escTo_len s k hk
    have hzz := hO.2.2.size
    by_cases hlt : k < s.size
    · have hlt' : (k : Int) < s.size := by omega
      have hown := hO.1
      have HO : Hid (OwnB w _ (escTo s k) wr) := hO
      clear hO
      obtain ⟨c, hc⟩ : ∃ c : Nat, (s[k]'hlt).toNat = c := ⟨_, rfl⟩
      have hci : ((s[k]'hlt).toNat : Int) = c := by rw [hc]
      by_cases hx : c = 37 ∨ c = 95 ∨ c = 92
      · have HE : Hid (escTo s (k + 1) = escTo s k ++ [92] ++ [c]) := escTo_sign hlt hc hx
        clear hc
        generalize escTo s k = l at *
        rcases hx with rfl | rfl | rfl
        all_goals
          go_wp2_with (at_builtin; first
            | (refine wpList_append_own _ rfl (.tmp 28) (.tmp 29) 27 rfl w.heap.size 5 i0 (.int .u8 0) 1 1 Tryz.underlying27 hi hz0 hz1 hz2 rfl (by decide) _ _ _ rfl (hown.alloc _) ⟨wr.heap.size, 0, none⟩ 1 1 [.int .u8 92] rfl rfl (cell_one_new _ _ _) (by intro u hu; simp at hu; subst hu; rfl) (by unfold maxLen; omega) (by omega) (by simp; omega) ?_; intro v' w1 hown' hgrow _; have HO1 := HO.out.grow (x := 92) _ hown' hgrow; have hown1 := HO1.1; have hz1' := HO1.2.2.size; have HO2 : Hid (OwnB w v' (l ++ [92]) w1) := HO1; have hl1 : (l ++ [92]).length ≤ 2 * k + 1 := (by rw [List.length_append]; show l.length + 1 ≤ _; omega); clear hown' hgrow hown HO1; generalize l ++ [92] = l1 at *)
            | (refine wpList_append_own _ rfl (.tmp 31) (.tmp 35) 27 rfl w.heap.size 5 i0 (.int .u8 0) 1 1 Tryz.underlying27 hi hz0 hz1 hz2 rfl (by decide) _ _ _ rfl (hown1.alloc _) ⟨w1.heap.size, 0, none⟩ 1 1 [.int .u8 _] rfl rfl (cell_one_new _ _ _) (by intro u hu; simp at hu; subst hu; rfl) (by unfold maxLen; omega) (by omega) (by simp; omega) ?_; intro v2 w2 hown2 hgrow2 _))
          have HO3 := HO2.out.grow _ hown2 hgrow2
          clear hown2 hgrow2 hown1
          go_wp2
          go_roundw
          case rel => exact ⟨k + 1, by omega, by go_num, by rw [HE.out]; exact HO3⟩
          case measure => simp [intOf]; omega
      · have HE : Hid (escTo s (k + 1) = escTo s k ++ [c]) := escTo_else hlt hc hx
        have n1 : ((c : Int) == 37) = false := by simp; omega
        have n2 : ((c : Int) == 95) = false := by simp; omega
        have n3 : ((c : Int) == 92) = false := by simp; omega
        have m1 : ¬ (c : Int) = 37 := by omega
        have m2 : ¬ (c : Int) = 95 := by omega
        have m3 : ¬ (c : Int) = 92 := by omega
        clear hc hx
        generalize escTo s k = l at *
        go_wp2_with (at_builtin; refine wpList_append_own _ rfl (.tmp 31) (.tmp 35) 27 rfl w.heap.size 5 i0 (.int .u8 0) 1 1 Tryz.underlying27 hi hz0 hz1 hz2 rfl (by decide) _ _ _ rfl (hown.alloc _) ⟨wr.heap.size, 0, none⟩ 1 1 [.int .u8 _] rfl rfl (cell_one_new _ _ _) (by intro u hu; simp at hu; subst hu; rfl) (by unfold maxLen; omega) (by omega) (by simp; omega) ?_; intro v2 w2 hown2 hgrow2 _)
        have HO3 := HO.out.grow _ hown2 hgrow2
        clear hown2 hgrow2 hown
        go_wp2
        go_roundw
        case rel => exact ⟨k + 1, by omega, by go_num, by rw [HE.out]; exact HO3⟩
        case measure => simp [intOf]; omega
    · have hlt' : ¬ (k : Int) < s.size := by omega
      obtain rfl : k = s.size := by omega
      have he := escTo_full s
      obtain ⟨t, ht, _, hcv⟩ := hO.text (by rw [he]; exact escB_lt (bytesN_lt s 0))
      have hbel := hO.2.2
      have HT : Hid (bytesN t 0 = escB (bytesN s 0)) := ht.trans he
      clear ht he hO hll
      go_wp2
      go_ret
      exact ⟨t, HT.out, rfl, hbel⟩
end Lk
end Go.Proofs.YtdcdoeolaongkaaGreatDoor
namespace Go.Proofs.YtdcdoeolaongkaaGreatDoor
namespace Lk
open Go.ChangeShapes Go.WideShapes Go.ChangeAt Go.RowKit
set_option linter.unusedVariables false
set_option linter.unusedSimpArgs false
set_option maxRecDepth 100000
open Classical in
/-- The text holds the other. -/
noncomputable def holdsB (s t : ByteArray) : Bool := decide (∃ x y, bytesN s 0 = x ++ bytesN t 0 ++ y)
theorem len_bytes (s : ByteArray) : (bytesN s 0).length = s.size := by unfold bytesN; rw [List.length_map, List.length_drop, Rd.len_eq]; rfl
theorem bytes_extract (s : ByteArray) (i n : Nat) : bytesN (s.extract i (i + n)) 0 = ((bytesN s 0).drop i).take n := by
  unfold bytesN
  simp [ByteArray.data_extract, List.map_take, List.map_drop]
theorem at_part {s t : ByteArray} {i : Nat} (e : s.extract i (i + t.size) = t) : ∃ x y, bytesN s 0 = x ++ bytesN t 0 ++ y := by
  have hb := bytes_extract s i t.size
  rw [e] at hb
  refine ⟨(bytesN s 0).take i, ((bytesN s 0).drop i).drop t.size, ?_⟩
  rw [hb, List.append_assoc, List.take_append_drop, List.take_append_drop]
theorem part_at {s t : ByteArray} (h : ∃ x y, bytesN s 0 = x ++ bytesN t 0 ++ y) : ∃ i, i + t.size ≤ s.size ∧ s.extract i (i + t.size) = t := by
  obtain ⟨x, y, e⟩ := h
  have l1 := len_bytes s
  have l2 := len_bytes t
  have hl := congrArg List.length e
  rw [List.length_append, List.length_append, l1, l2] at hl
  refine ⟨x.length, by omega, bytesN_inj ?_⟩
  rw [bytes_extract, e, List.append_assoc, List.drop_left, ← l2, List.take_left]
theorem holdsB_yes {s t : ByteArray} {i : Nat} (e : s.extract i (i + t.size) = t) : holdsB s t = true := by
  classical
  unfold holdsB; exact decide_eq_true (at_part e)
theorem holdsB_no {s t : ByteArray} {k : Nat} (h : ∀ j, j < k → ¬ s.extract j (j + t.size) = t) (hk : ¬ k + t.size ≤ s.size) : holdsB s t = false := by
  classical
  unfold holdsB
  apply decide_eq_false
  intro hx
  obtain ⟨i, h1, h2⟩ := part_at hx
  exact h i (by omega) h2
set_option maxHeartbeats 1000000 in
theorem holds_any (s t : ByteArray) (w : World) (hs : s.size ≤ 1048576) (ht : t.size ≤ 1048576) : Calls Tryz.prog 29 #[.string s, .string t] w fun e w' => e = .returned (.bool (holdsB s t)) ∧ w' = w := by
  go_enter Tryz.func29, Tryz.ntmps29
  go_wp2
  go_loopw [5] (fun i wr => ∃ k : Nat, k ≤ s.size + 1 ∧ i = .int .i64 k ∧ wr = w ∧ Hid (∀ j, j < k → ¬ s.extract j (j + t.size) = t)) (fun i _ => s.size + 1 - (intOf i).toNat)
  case atStart => exact ⟨0, by omega, rfl, rfl, (fun j hj => by omega : ∀ j, j < 0 → ¬ s.extract j (j + t.size) = t)⟩
  case round =>
    obtain ⟨k, hk, rfl, rfl, HN⟩ := hrel
    by_cases hlt : k + t.size ≤ s.size
    · have hlt' : (k : Int) + t.size ≤ s.size := by omega
      by_cases he : s.extract k (k + t.size) = t
      · have HR : Hid (holdsB s t = true) := holdsB_yes he
        go_wp2
        go_ret
        exact ⟨by rw [HR.out]; rfl, rfl⟩
      · have HS : Hid (∀ j, j < k + 1 → ¬ s.extract j (j + t.size) = t) := (fun j hj => by
          by_cases e : j = k
          · subst e; exact he
          · exact HN.out j (by omega) : ∀ j, j < k + 1 → ¬ s.extract j (j + t.size) = t)
        have hb : ((s.extract k (k + t.size)).toList == t.toList) = false := by
          rw [ByteArray.toList_eq, ByteArray.toList_eq]
          simp only [beq_eq_false_iff_ne, ne_eq]
          exact fun e => he (bytes_inj e)
        clear he
        go_wp2
        · refine ⟨⟨k + 1, by omega, by go_num, trivial, HS⟩, ?_⟩
          simp [intOf]; omega
    · have hlt' : ¬ (k : Int) + t.size ≤ s.size := by omega
      have HR : Hid (holdsB s t = false) := holdsB_no HN.out hlt
      go_wp2
      go_ret
      exact ⟨by rw [HR.out]; rfl, rfl⟩
theorem truth_any (b : Bool) (w : World) : Calls Tryz.prog 31 #[.bool b] w fun e w' => e = .returned (.int .i64 (if b then 1 else 0)) ∧ w' = w := by
  cases b <;> (go_enter Tryz.func31, Tryz.ntmps31; go_wp2; go_ret; exact ⟨rfl, rfl⟩)
end Lk
end Go.Proofs.YtdcdoeolaongkaaGreatDoor
namespace Go.Proofs.YtdcdoeolaongkaaGreatDoor
namespace Lk
open Go.ChangeShapes Go.WideShapes Go.ChangeAt Go.RowKit
set_option linter.unusedVariables false
set_option linter.unusedSimpArgs false
set_option maxRecDepth 100000
theorem OwnB.grows {w wr w1 : World} {v v' : Value} {l ys : List Nat} {n : Nat} {cs : List Value} (h : OwnB w v l wr) (o : Obj) (hn : n = ys.length) (hp : 0 < n) (hc : cs = (ints ys).map (Value.int .u8))
    (ho : w1.ownsRow w.heap.size 5 1 v' (l.length + n) ((ints l).map (Value.int .u8) ++ cs)) (hg : (wr.alloc o).grownBy w1 v.ownBlock) : OwnB w v' (l ++ ys) w1 := by
  obtain ⟨h1, h2, h3⟩ := h
  subst hn hc
  refine ⟨by rw [ints_app]; simpa using ho, ?_, ?_⟩
  · rintro rfl
    rcases ho.2 with ⟨_, h0⟩ | ⟨g, cap, cur, e, _⟩
    · omega
    · cases e
  · exact (h3.alloc h3.size o).grown hg (by have := h3.size; simp; omega) (fun k hk => (h1.lt k hk).1)
theorem two_new (w : World) (x y : Value) (t : TypeId) : ∀ j u, [x, y][j]? = some u → (w.alloc (.cells #[x, y] t)).cell? ((⟨w.heap.size, 0, none⟩ : Addr).add j) = some u := by
  intro j u h
  match j, h with
  | 0, h => simp at h; subst h; simp [go_sem]
  | 1, h => simp at h; subst h; simp [go_sem, Addr.add]
theorem tre_new (w : World) (x y z : Value) (t : TypeId) : ∀ j u, [x, y, z][j]? = some u → (w.alloc (.cells #[x, y, z] t)).cell? ((⟨w.heap.size, 0, none⟩ : Addr).add j) = some u := by
  intro j u h
  match j, h with
  | 0, h => simp at h; subst h; simp [go_sem]
  | 1, h => simp at h; subst h; simp [go_sem, Addr.add]
  | 2, h => simp at h; subst h; simp [go_sem, Addr.add]
theorem four_new (w : World) (x y z q : Value) (t : TypeId) : ∀ j u, [x, y, z, q][j]? = some u → (w.alloc (.cells #[x, y, z, q] t)).cell? ((⟨w.heap.size, 0, none⟩ : Addr).add j) = some u := by
  intro j u h
  match j, h with
  | 0, h => simp at h; subst h; simp [go_sem]
  | 1, h => simp at h; subst h; simp [go_sem, Addr.add]
  | 2, h => simp at h; subst h; simp [go_sem, Addr.add]
  | 3, h => simp at h; subst h; simp [go_sem, Addr.add]
theorem encN_lt {r : Nat} (h : r ≤ 1114111) : ∀ x ∈ encN r, x < 256 := by
  intro x hx
  unfold encN at hx
  split at hx
  · simp at hx; omega
  split at hx
  · simp at hx; omega
  split at hx
  · simp at hx; omega
  · simp at hx; omega
theorem encs_lt {l : List Int} (h : sane l) : ∀ x ∈ encs l, x < 256 := by
  intro x hx
  unfold encs at hx
  obtain ⟨c, hc, hx⟩ := List.mem_flatMap.1 hx
  have := h c hc
  exact encN_lt (by omega) x hx
theorem encN_len (r : Nat) : (encN r).length ≤ 4 := by
  unfold encN
  split
  · simp
  split
  · simp
  split <;> simp
theorem encs_len : ∀ (l : List Int), (encs l).length ≤ 4 * l.length
  | [] => by simp [encs]
  | c :: l => by
    have := encs_len l
    have h := encN_len c.toNat
    rw [encs_cons, List.length_append, List.length_cons]; omega
theorem encs_take {l : List Int} {k : Nat} (h : k < l.length) : encs (l.take (k + 1)) = encs (l.take k) ++ encN (l[k]).toNat := by
  rw [List.take_succ_eq_append_getElem h, encs_app, encs_cons, encs_nil, List.append_nil]
set_option maxHeartbeats 8000000 in
theorem text_any (ts : List Int) (v0 : Value) (w : World) (hv : Mp.RIO w v0 ts) (hS : sane ts) (hl : ts.length ≤ 1048576) :
    Calls Tryz.prog 69 #[v0] w fun e w' => ∃ t : ByteArray, bytesN t 0 = encs ts ∧ e = .returned (.string t) ∧ Below w.heap.size w w' := by
  obtain ⟨i0, hi, hz0, hz1, hz2⟩ := info_parts Dr.info5
  obtain ⟨a, cap, rfl, hcells⟩ := hv
  go_enter Tryz.func69, Tryz.ntmps69
  go_wp2
  go_loopw [3, 9] (fun v i wr => ∃ k : Nat, k ≤ ts.length ∧ i = .int .i64 k ∧ OwnB w v (encs (ts.take k)) wr) (fun _ i _ => ts.length - (intOf i).toNat)
  case atStart => exact ⟨0, by omega, rfl, OwnB.start w⟩
  case round =>
    obtain ⟨k, hk, rfl, hO⟩ := hrel
    have hll := encs_len (ts.take k)
    have hlk : (ts.take k).length ≤ 1048576 := by rw [List.length_take]; omega
    have hzz := hO.2.2.size
    by_cases hlt : k < ts.length
    · have hlt' : (k : Int) < ts.length := by omega
      obtain ⟨g, o, rfl, hg, hc⟩ := hcells (by omega)
      have hcell : wr.cell? ⟨g, o + k, none⟩ = some (.int .i64 ts[k]) := (hO.2.2.cell (p := ⟨g, o + k, none⟩) hg).trans (hc k hlt)
      have hown := hO.1
      have HO : Hid (OwnB w _ (encs (ts.take k)) wr) := hO
      have HE : Hid (encs (ts.take (k + 1)) = encs (ts.take k) ++ encN (ts[k]).toNat) := encs_take hlt
      have hs := hS ts[k] (List.getElem_mem hlt)
      have hgz : g < wr.heap.size := by omega
      clear hO hcells hc
      generalize ts[k] = c at *
      generalize encs (ts.take k) = l at *
      obtain ⟨m, rfl⟩ : ∃ m : Nat, c = m := ⟨c.toNat, by omega⟩
      have hme : ((m : Int)).toNat = m := by omega
      rw [hme] at HE
      clear hme
      by_cases h1 : (m : Int) < 128
      · have HQ : Hid (encN m = [m]) := (by unfold encN; rw [if_pos (by omega)] : encN m = [m])
        go_wp2_with (at_builtin; refine wpList_append_own _ rfl (.tmp 37) (.tmp 40) 27 rfl w.heap.size 5 i0 (.int .u8 0) 1 1 Tryz.underlying27 hi hz0 hz1 hz2 rfl (by decide) _ _ _ rfl (hown.alloc _) ⟨wr.heap.size, 0, none⟩ 1 1 [.int .u8 _] rfl rfl (cell_one_new _ _ _) (by intro u hu; simp at hu; subst hu; rfl) (by unfold maxLen; omega) (by omega) (by simp; omega) ?_; intro v2 w2 hown2 hgrow2 _)
        have HO3 := HO.out.grows (ys := [m]) _ rfl (by simp) rfl hown2 hgrow2
        clear hown2 hgrow2 hown
        go_wp2
        go_roundw
        case rel => exact ⟨k + 1, by omega, by go_num, by rw [HE.out, HQ.out]; exact HO3⟩
        case measure => simp [intOf]; omega
      · by_cases h2 : (m : Int) < 2048
        · have HQ : Hid (encN m = [192 + m / 64, 128 + m % 64]) := (by unfold encN; rw [if_neg (by omega), if_pos (by omega)] : encN m = [192 + m / 64, 128 + m % 64])
          have e1 : (m : Int).tdiv 64 = ((m / 64 : Nat) : Int) := rfl
          have e2 : (m : Int).tmod 64 = ((m % 64 : Nat) : Int) := rfl
          have b1 : m / 64 < 32 := by omega
          have b2 : m % 64 < 64 := by omega
          generalize m / 64 = q1 at *
          generalize m % 64 = q0 at *
          go_wp2_with (at_builtin; refine wpList_append_own _ rfl (.tmp 45) (.tmp 54) 27 rfl w.heap.size 5 i0 (.int .u8 0) 1 1 Tryz.underlying27 hi hz0 hz1 hz2 rfl (by decide) _ _ _ rfl (hown.alloc _) ⟨wr.heap.size, 0, none⟩ 2 2 [.int .u8 _, .int .u8 _] rfl rfl (two_new _ _ _ _) (by intro u hu; simp at hu; rcases hu with rfl | rfl <;> rfl) (by unfold maxLen; omega) (by omega) (by simp; omega) ?_; intro v2 w2 hown2 hgrow2 _)
          have HO3 := HO.out.grows (ys := [192 + q1, 128 + q0]) _ rfl (by simp) (by simp [ints]) hown2 hgrow2
          clear hown2 hgrow2 hown
          go_wp2
          go_roundw
          case rel => exact ⟨k + 1, by omega, by go_num, by rw [HE.out, HQ.out]; exact HO3⟩
          case measure => simp [intOf]; omega
        · by_cases h3 : (m : Int) < 65536
          · have HQ : Hid (encN m = [224 + m / 4096, 128 + m / 64 % 64, 128 + m % 64]) := (by unfold encN; rw [if_neg (by omega), if_neg (by omega), if_pos (by omega)] : encN m = [224 + m / 4096, 128 + m / 64 % 64, 128 + m % 64])
            have e1 : (m : Int).tdiv 4096 = ((m / 4096 : Nat) : Int) := rfl
            have e2 : (m : Int).tmod 64 = ((m % 64 : Nat) : Int) := rfl
            have e3 : (m : Int).tdiv 64 = ((m / 64 : Nat) : Int) := rfl
            have e4 : ((m / 64 : Nat) : Int).tmod 64 = ((m / 64 % 64 : Nat) : Int) := rfl
            have b1 : m / 4096 < 16 := by omega
            have b2 : m % 64 < 64 := by omega
            have b3 : m / 64 < 1024 := by omega
            have b4 : m / 64 % 64 < 64 := by omega
            generalize m / 64 % 64 = q1 at *
            generalize m / 64 = q3 at *
            generalize m / 4096 = q2 at *
            generalize m % 64 = q0 at *
            go_wp2_with (at_builtin; refine wpList_append_own _ rfl (.tmp 59) (.tmp 73) 27 rfl w.heap.size 5 i0 (.int .u8 0) 1 1 Tryz.underlying27 hi hz0 hz1 hz2 rfl (by decide) _ _ _ rfl (hown.alloc _) ⟨wr.heap.size, 0, none⟩ 3 3 [.int .u8 _, .int .u8 _, .int .u8 _] rfl rfl (tre_new _ _ _ _ _) (by intro u hu; simp at hu; rcases hu with rfl | rfl | rfl <;> rfl) (by unfold maxLen; omega) (by omega) (by simp; omega) ?_; intro v2 w2 hown2 hgrow2 _)
            have HO3 := HO.out.grows (ys := [224 + q2, 128 + q1, 128 + q0]) _ rfl (by simp) (by simp [ints]) hown2 hgrow2
            clear hown2 hgrow2 hown
            go_wp2
            go_roundw
            case rel => exact ⟨k + 1, by omega, by go_num, by rw [HE.out, HQ.out]; exact HO3⟩
            case measure => simp [intOf]; omega
          · have HQ : Hid (encN m = [240 + m / 262144, 128 + m / 4096 % 64, 128 + m / 64 % 64, 128 + m % 64]) := (by unfold encN; rw [if_neg (by omega), if_neg (by omega), if_neg (by omega)] : encN m = [240 + m / 262144, 128 + m / 4096 % 64, 128 + m / 64 % 64, 128 + m % 64])
            have e1 : (m : Int).tdiv 4096 = ((m / 4096 : Nat) : Int) := rfl
            have e2 : (m : Int).tmod 64 = ((m % 64 : Nat) : Int) := rfl
            have e3 : (m : Int).tdiv 64 = ((m / 64 : Nat) : Int) := rfl
            have e4 : ((m / 64 : Nat) : Int).tmod 64 = ((m / 64 % 64 : Nat) : Int) := rfl
            have e5 : (m : Int).tdiv 262144 = ((m / 262144 : Nat) : Int) := rfl
            have e6 : ((m / 4096 : Nat) : Int).tmod 64 = ((m / 4096 % 64 : Nat) : Int) := rfl
            have b1 : m / 4096 < 300 := by omega
            have b2 : m % 64 < 64 := by omega
            have b3 : m / 64 < 20000 := by omega
            have b4 : m / 64 % 64 < 64 := by omega
            have b5 : m / 262144 < 5 := by omega
            have b6 : m / 4096 % 64 < 64 := by omega
            generalize m / 64 % 64 = q1 at *
            generalize m / 4096 % 64 = q2 at *
            generalize m / 64 = r1 at *
            generalize m / 4096 = r2 at *
            generalize m / 262144 = q3 at *
            generalize m % 64 = q0 at *
            go_wp2_with (at_builtin; refine wpList_append_own _ rfl (.tmp 13) (.tmp 32) 27 rfl w.heap.size 5 i0 (.int .u8 0) 1 1 Tryz.underlying27 hi hz0 hz1 hz2 rfl (by decide) _ _ _ rfl (hown.alloc _) ⟨wr.heap.size, 0, none⟩ 4 4 [.int .u8 _, .int .u8 _, .int .u8 _, .int .u8 _] rfl rfl (four_new _ _ _ _ _ _) (by intro u hu; simp at hu; rcases hu with rfl | rfl | rfl | rfl <;> rfl) (by unfold maxLen; omega) (by omega) (by simp; omega) ?_; intro v2 w2 hown2 hgrow2 _)
            have HO3 := HO.out.grows (ys := [240 + q3, 128 + q2, 128 + q1, 128 + q0]) _ rfl (by simp) (by simp [ints]) hown2 hgrow2
            clear hown2 hgrow2 hown
            go_wp2
            go_roundw
            case rel => exact ⟨k + 1, by omega, by go_num, by rw [HE.out, HQ.out]; exact HO3⟩
            case measure => simp [intOf]; omega
    · have hlt' : ¬ (k : Int) < ts.length := by omega
      have he : ts.take k = ts := List.take_of_length_le (by omega)
      rw [he] at hO
      obtain ⟨t, ht, _, hcv⟩ := hO.text (encs_lt hS)
      have hbel := hO.2.2
      have HT : Hid (bytesN t 0 = encs ts) := ht
      clear ht he hO hll
      go_wp2
      go_ret
      exact ⟨t, HT.out, rfl, hbel⟩
end Lk
end Go.Proofs.YtdcdoeolaongkaaGreatDoor
namespace Go.Proofs.YtdcdoeolaongkaaGreatDoor
namespace Lk
open Go.ChangeShapes Go.WideShapes Go.ChangeAt Go.RowKit
open Go.Proofs.YtdcdoeolaongkaaGreatDoor.Dr
set_option linter.unusedVariables false
set_option linter.unusedSimpArgs false
set_option maxRecDepth 100000
/-- Two drawn values. -/
def Two (L : Nat) (w : World) (e : Ending) (w' : World) : Prop := ∃ (k n : Int) (s : ByteArray) (k' n' : Int) (s' : ByteArray), s.size ≤ L ∧ s'.size ≤ L ∧ inI n ∧ inI n' ∧ e = .returned (.tuple #[.agg #[.int .i64 k, .int .i64 n, .string s], .agg #[.int .i64 k', .int .i64 n', .string s']]) ∧ Below w.heap.size w w'
theorem curDrew {w : World} {c : Nat} {A : Int} (h : IsCur w c A) : IsCur w.drew c A := h.same (fun _ _ => rfl) h.lt
theorem holdsDrew {w : World} {b : Nat} {k n : Int} {s : ByteArray} (h : Holds w b k n s) : Holds w.drew b k n s := h.same rfl h.lt
theorem belowDrew (w : World) : Below w.heap.size w w.drew := (Below.refl w.heap.size w).drew
theorem rio_one (w : World) (c : Int) : Mp.RIO (w.alloc (.cells #[.int .i64 c] 3)) (.slice (some ⟨w.heap.size, 0, none⟩) 1 1) [c] := by
  refine ⟨some ⟨w.heap.size, 0, none⟩, 1, rfl, fun _ => ⟨w.heap.size, 0, rfl, by simp, ?_⟩⟩
  intro i hi
  have : i = 0 := by simpa using hi
  subst this
  simp [go_sem]
theorem one_size {t : ByteArray} {c : Int} (h : bytesN t 0 = encs [c]) : t.size ≤ 4 := by
  have := bytesN_len t
  rw [h] at this
  have h2 := encs_len [c]
  simp at h2; omega
/-- What l01Chars gives, as a row that is read. -/
theorem chars_row {s : ByteArray} {w w' : World} {e : Ending} (h : CharsPost s w e w') (hs : s.size ≤ 60) : ∃ (ts : List Int) (a : Option Addr) (cap : Nat) (b : Bool), e = .returned (.tuple #[.slice a ts.length cap, .bool b]) ∧ sane ts ∧ ts.length ≤ 60 ∧ Below w.heap.size w w' ∧ (0 < ts.length → ∃ g, a = some ⟨g, 0, none⟩ ∧ w.heap.size ≤ g ∧ g < w'.heap.size ∧ ∀ i (h : i < ts.length), w'.cell? ⟨g, i, none⟩ = some (.int .i64 ts[i])) := by
  rcases h with ⟨ts, v, hc, rfl, ho, hb⟩ | ⟨a, hc, rfl, hb⟩
  rotate_left
  · exact ⟨[], a, 0, false, rfl, (by intro c hc; cases hc), by simp, hb, fun h => absurd h (by simp)⟩
  · skip
    have hsn := (chars_encs hc).2
    have hl := (count_eq s ts hc).2.2
    have ho' := ho
    obtain ⟨hlen, hcase⟩ := ho'
    rcases hcase with ⟨rfl, h0⟩ | ⟨g, cap, cur, rfl, hg1, hg2, _⟩
    · have : ts = [] := List.length_eq_zero_iff.1 h0
      subst this
      exact ⟨[], none, 0, true, rfl, hsn, by simp, hb, fun h => absurd h (by simp)⟩
    · refine ⟨ts, _, cap, true, rfl, hsn, by omega, hb, fun _ => ⟨g, rfl, hg1, ?_, ?_⟩⟩
      · exact (Array.getElem?_eq_some_iff.1 hg2).1
      · intro i hi
        have := ho.cells (g := g) rfl i (.int .i64 ts[i]) (by simp [hi])
        simp only [Addr.add] at this
        by_cases e : i = 0
        · subst e; simpa using this
        · simpa [e] using this
set_option maxHeartbeats 16000000 in
theorem drawLike_any (v0 : Option Addr) (len cap : Nat) (w : World) (hl : len ≤ 1048576) (hb : Dr.Read w v0 len) :
    Calls Tryz.prog 27 #[.slice v0 len cap] w fun e w' => Two 700 w e w' := by
  have bw0 : Below w.heap.size w ((w.alloc (.cells #[.int .i64 0, .int .i64 0, .string ⟨#[]⟩] 29)).alloc (.cells #[.int .i64 0, .int .i64 0, .string ⟨#[]⟩] 29)) := (below_alloc w _).alloc (by simp) _
  have hc0 : IsCur (((w.alloc (.cells #[.int .i64 0, .int .i64 0, .string ⟨#[]⟩] 29)).alloc (.cells #[.int .i64 0, .int .i64 0, .string ⟨#[]⟩] 29)).alloc (.cells #[.slice v0 len cap, .int .i64 0, .int .i64 0, .int .i64 0] 77)) (w.heap.size + 1 + 1) 0 :=
    cur_new _ v0 len cap _ (by simp) hl (hb.below bw0)
  have bw1 : Below w.heap.size w (((w.alloc (.cells #[.int .i64 0, .int .i64 0, .string ⟨#[]⟩] 29)).alloc (.cells #[.int .i64 0, .int .i64 0, .string ⟨#[]⟩] 29)).alloc (.cells #[.slice v0 len cap, .int .i64 0, .int .i64 0, .int .i64 0] 77)) := bw0.alloc (by simp; omega) _
  obtain ⟨c, hcc⟩ : ∃ c, w.heap.size + 1 + 1 = c := ⟨_, rfl⟩
  have hne : w.heap.size ≠ c := by omega
  have hne' : w.heap.size + 1 ≠ c := by omega
  have hcz : w.heap.size ≤ c := by omega
  clear hb
  go_enter Tryz.func27, Tryz.ntmps27
  go_wp2_with fail
  rw [hcc] at hc0
  refine (drawKind_any c 0 3 _ hc0 (by omega)).mono ?_
  rintro e w1 ⟨k, n, s, hs, hn, rfl, hc1, hu1⟩
  have hr1 : Holds w1 w.heap.size 0 0 ⟨#[]⟩ := (((Holds.new w 0 0 ⟨#[]⟩).below (below_alloc _ _) (by simp)).below (below_alloc _ _) (by simp; omega)).upd hu1 hne
  have hq1 : Holds w1 (w.heap.size + 1) 0 0 ⟨#[]⟩ := by
    have := ((Holds.new (w.alloc (.cells #[.int .i64 0, .int .i64 0, .string ⟨#[]⟩] 29)) 0 0 ⟨#[]⟩).below (below_alloc _ (.cells #[.slice v0 len cap, .int .i64 0, .int .i64 0, .int .i64 0] 77)) (by simp)).upd hu1 (by simpa using hne')
    simpa using this
  have HB1 : Hid (Below w.heap.size w w1) := Upd.below bw1 hu1 hcz
  have HS : Hid (s.size ≤ 60) := hs
  have hz1 := hq1.lt
  have hy1 := hr1.lt
  have hcl := hc1.lt
  have hv : w1.heap.size ≠ c := by omega
  clear hc0 hu1 hs bw0 bw1
  go_wp2_with fail
  refine (pick_any c 20 8 _ (hc1.below (B := w1.heap.size) (by (go_light; repeat (first | with_reducible exact Below.refl _ _ | (with_reducible refine Below.setCell ?_ ?_ _; rotate_left; (focus first | (simp; done) | (simp; omega) | omega)) | (with_reducible refine Below.alloc ?_ ?_ _; rotate_left; (focus first | (simp; done) | (simp; omega) | omega)) | with_reducible refine Below.drew ?_))) (by omega)) (by omega) (by omega) (by omega)).mono ?_
  rintro e w2 ⟨r, r0, r1, rfl, hc2, hu2⟩
  have hr2 := Holds.upd (hr1.below (B := w1.heap.size) (by (go_light; repeat (first | with_reducible exact Below.refl _ _ | (with_reducible refine Below.setCell ?_ ?_ _; rotate_left; (focus first | (simp; done) | (simp; omega) | omega)) | (with_reducible refine Below.alloc ?_ ?_ _; rotate_left; (focus first | (simp; done) | (simp; omega) | omega)) | with_reducible refine Below.drew ?_))) hy1) hu2 hne
  have hq2 := Holds.upd (hq1.below (B := w1.heap.size) (by (go_light; repeat (first | with_reducible exact Below.refl _ _ | (with_reducible refine Below.setCell ?_ ?_ _; rotate_left; (focus first | (simp; done) | (simp; omega) | omega)) | (with_reducible refine Below.alloc ?_ ?_ _; rotate_left; (focus first | (simp; done) | (simp; omega) | omega)) | with_reducible refine Below.drew ?_))) hz1) hu2 hne'
  have hv2 : Holds w2 w1.heap.size k n s := Holds.upd ⟨by simp [go_sem], by simp [go_sem], by simp [go_sem], by simp [go_sem], by simp [go_sem], by simp [go_sem], by simp⟩ hu2 hv
  have HB2 : Hid (Below w.heap.size w w2) := Upd.below (w := w) (HB1.out.trans (Below.mono (B := w1.heap.size) (by (go_light; repeat (first | with_reducible exact Below.refl _ _ | (with_reducible refine Below.setCell ?_ ?_ _; rotate_left; (focus first | (simp; done) | (simp; omega) | omega)) | (with_reducible refine Below.alloc ?_ ?_ _; rotate_left; (focus first | (simp; done) | (simp; omega) | omega)) | with_reducible refine Below.drew ?_))) (by omega))) hu2 hcz
  have d1 : w.heap.size ≠ w1.heap.size := by omega
  have d2 : w1.heap.size ≠ w.heap.size := by omega
  have d3 : w.heap.size + 1 ≠ w1.heap.size := by omega
  have d4 : w1.heap.size ≠ w.heap.size + 1 := by omega
  clear HB1 hu2 hr1 hq1 hc1 hcc
  by_cases t : r = 7
  · subst t
    have hv2' := hv2
    obtain ⟨v0', v1, v2, g0, g1, g2, hy3⟩ := hv2'
    clear g0 g1 g2
    go_wp2
    have hrd := holdsDrew hr2
    have hqd := holdsDrew hq2
    have hvd := holdsDrew hv2
    have hcd := curDrew hc2
    go_region_with (go_at_call 41; refine (drawValue_any c 22 w2.drew (hcd.mono (by omega)) (by omega)).mono ?_; rintro e w3 ⟨k3, n3, s3, hs3, hn3, rfl, hc3, hu3⟩; have hs3' := HS.out; obtain ⟨p0, p1, p2, p3, p4, p5, p6⟩ := Holds.upd hrd hu3 hne; obtain ⟨q0, q1, q2, q3, q4, q5, q6⟩ := Holds.upd hqd hu3 hne'; obtain ⟨o0, o1, o2, o3, o4, o5, o6⟩ := Holds.upd hvd hu3 hv; have HB3 : Hid (Below w.heap.size w w3) := Upd.below (HB2.out.trans ((belowDrew _).mono HB2.out.size)) hu3 hcz)
    all_goals
      go_wp2
      refine bodyPost_ret (v := .tuple #[.agg #[.int .i64 k, .int .i64 n, .string s], .agg #[.int .i64 k3, .int .i64 n3, .string s3]]) (by simp [results, Tryz.results27, go_sem, p0, p1, p2, p3, p4, p5, p6, q0, q1, q2, q3, q4, q5, q6, o0, o1, o2, d1, d2, d3, d4]) rfl ?_
      refine ⟨k, n, s, k3, n3, s3, by omega, hs3, hn, hn3, rfl, HB3.out.trans ?_⟩
      (go_light; repeat (first | with_reducible exact Below.refl _ _ | (with_reducible refine Below.setCell ?_ ?_ _; rotate_left; (focus first | (simp; done) | (simp; omega) | omega)) | (with_reducible refine Below.alloc ?_ ?_ _; rotate_left; (focus first | (simp; done) | (simp; omega) | omega)) | with_reducible refine Below.drew ?_))
  have t' : (r == 7) = false := by simpa using t
  have hv2' := hv2
  obtain ⟨v0', v1, v2, g0, g1, g2, hy3⟩ := hv2'
  clear t g0 g1 g2
  go_wp2_with fail
  refine (chars_any s w2 (by have := HS.out; omega)).mono ?_
  intro e w3 hch
  obtain ⟨ts, a, cap', fb, rfl, hsn, htl, hb3, hrow⟩ := chars_row hch HS.out
  have hr3 := hr2.below hb3 hr2.lt
  have hq3 := hq2.below hb3 hq2.lt
  have hv3 := hv2.below hb3 hv2.lt
  have hc3 := hc2.below hb3 hc2.lt
  have hcl3 := hc3.lt
  have hcl2 := hc2.lt
  have HB3 : Hid (Below w.heap.size w w3) := HB2.out.trans (hb3.mono HB2.out.size)
  have HSN : Hid (sane ts) := hsn
  have hz3 := hb3.size
  clear HB2 hch hr2 hq2 hv2 hc2 hb3 hsn v0' v1 v2 hy3
  go_wp2
  go_loopw [8, 30] (fun sp i wr => ∃ (j : Nat) (p : ByteArray), j ≤ ts.length ∧ i = .int .i64 j ∧ sp = .string p ∧ p.size ≤ 5 * j ∧ IsCur wr c (22 + 2 * j) ∧ Upd c w3 wr) (fun _ i _ => ts.length - (intOf i).toNat)
  case atStart => exact ⟨0, ⟨#[]⟩, by omega, rfl, rfl, by decide, hc3.mono (by omega), Upd.refl _ _⟩
  case round =>
    obtain ⟨j, p, hj, rfl, rfl, hp, hcj, huj⟩ := hrel
    have HP : Hid (p.size ≤ 5 * j) := hp
    have hp3 : p.size ≤ 300 := by omega
    clear hp
    have hwz := huj.size
    by_cases hlt : j < ts.length
    · have hlt' : (j : Int) < ts.length := by omega
      obtain ⟨g, rfl, hg1, hg2, hg3⟩ := hrow (by omega)
      have hgc : g ≠ c := by omega
      have hcell : wr.cell? ⟨g, j, none⟩ = some (.int .i64 ts[j]) := (huj.cell (p := ⟨g, j, none⟩) hg2 hgc).trans (hg3 j hlt)
      have HX : Hid (sane [ts[j]]) := (by intro x hx; simp at hx; subst hx; exact HSN.out _ (List.getElem_mem hlt) : sane [ts[j]])
      have HU : Hid (Upd c w3 wr) := huj
      have hcjl := hcj.lt
      clear hrow hg3 huj
      generalize ts[j] = x at *
      go_wp2_with fail
      refine (pick_any c (22 + 2 * j) 6 _ hcj (by omega) (by omega) (by omega)).mono ?_
      rintro e w4 ⟨u, u0, u1, rfl, hc4, hu4⟩
      have HU4 : Hid (Upd c w3 w4) := HU.out.trans hu4
      have hz4 := hu4.size
      have hcl4 := hc4.lt
      clear HU hcj hu4 hcell
      have hT := fun W => text_any [x] _ _ (rio_one W x) HX.out (by simp)
      by_cases a0 : u = 0
      · subst a0
        go_wp2
        go_roundw
        case rel => exact ⟨j + 1, _, by omega, by go_num, rfl, by have := HP.out; rw [ByteArray.size_append]; show _ + 1 ≤ _; omega, hc4.mono (by omega), HU4.out⟩
        case measure => simp [intOf]; omega
      have n0 : (u == 0) = false := by simpa using a0
      by_cases a1 : u = 1
      · subst a1
        go_wp2
        go_roundw
        case rel => exact ⟨j + 1, _, by omega, by go_num, rfl, by have := HP.out; rw [ByteArray.size_append]; show _ + 1 ≤ _; omega, hc4.mono (by omega), HU4.out⟩
        case measure => simp [intOf]; omega
      have n1 : (u == 1) = false := by simpa using a1
      by_cases a2 : u = 2
      · subst a2
        go_wp2_with fail
        refine (hT _).mono ?_
        rintro e w5 ⟨y, hy, rfl, hb5⟩
        have HY : Hid (y.size ≤ 4) := one_size hy
        have hy4 := HY.out
        have bw5 : Below w4.heap.size w4 w5 := (below_alloc w4 _).trans (hb5.mono (by simp))
        have hz5 := bw5.size
        have hc5 := hc4.below bw5 hcl4
        have HU5 : Hid (Upd c w3 w5) := HU4.out.thenB bw5 (by omega)
        clear hy hb5 hT bw5
        go_wp2
        go_roundw
        case rel => exact ⟨j + 1, _, by omega, by go_num, rfl, by have := HP.out; have := HY.out; simp only [ByteArray.size_append]; have e1 : (ByteArray.mk #[92]).size = 1 := rfl; have e2 : (ByteArray.mk #[37]).size = 1 := rfl; omega, hc5.mono (by omega), HU5.out⟩
        case measure => simp [intOf]; omega
      have n2 : (u == 2) = false := by simpa using a2
      by_cases a3 : u = 3
      · subst a3
        go_wp2_with fail
        refine (hT _).mono ?_
        rintro e w5 ⟨y, hy, rfl, hb5⟩
        have HY : Hid (y.size ≤ 4) := one_size hy
        have hy4 := HY.out
        have bw5 : Below w4.heap.size w4 w5 := (below_alloc w4 _).trans (hb5.mono (by simp))
        have hz5 := bw5.size
        have hc5 := hc4.below bw5 hcl4
        have HU5 : Hid (Upd c w3 w5) := HU4.out.thenB bw5 (by omega)
        clear hy hb5 hT bw5
        go_wp2
        go_roundw
        case rel => exact ⟨j + 1, _, by omega, by go_num, rfl, by have := HP.out; have := HY.out; simp only [ByteArray.size_append]; have e1 : (ByteArray.mk #[92]).size = 1 := rfl; have e2 : (ByteArray.mk #[37]).size = 1 := rfl; omega, hc5.mono (by omega), HU5.out⟩
        case measure => simp [intOf]; omega
      have n3 : (u == 3) = false := by simpa using a3
      go_wp2_with fail
      refine (hT _).mono ?_
      rintro e w5 ⟨y, hy, rfl, hb5⟩
      have HY : Hid (y.size ≤ 4) := one_size hy
      have hy4 := HY.out
      have bw5 : Below w4.heap.size w4 w5 := (below_alloc w4 _).trans (hb5.mono (by simp))
      have hz5 := bw5.size
      have hc5 := hc4.below bw5 hcl4
      have HU5 : Hid (Upd c w3 w5) := HU4.out.thenB bw5 (by omega)
      clear hy hb5 hT bw5
      go_wp2
      go_roundw
      case rel => exact ⟨j + 1, _, by omega, by go_num, rfl, by have := HP.out; have := HY.out; simp only [ByteArray.size_append]; have e1 : (ByteArray.mk #[92]).size = 1 := rfl; have e2 : (ByteArray.mk #[37]).size = 1 := rfl; omega, hc5.mono (by omega), HU5.out⟩
      case measure => simp [intOf]; omega
    · have hlt' : ¬ (j : Int) < ts.length := by omega
      obtain ⟨p0, p1, p2, p3, p4, p5, p6⟩ := hr3.upd huj hne
      obtain ⟨q0, q1, q2, q3, q4, q5, q6⟩ := hq3.upd huj hne'
      obtain ⟨o0, o1, o2, o3, o4, o5, o6⟩ := hv3.upd huj (by omega)
      have HBJ : Hid (Below w.heap.size w wr) := Upd.below HB3.out huj hcz
      clear huj hcj hr3 hq3 hv3
      go_wp2
      refine bodyPost_ret (v := .tuple #[.agg #[.int .i64 k, .int .i64 n, .string s], .agg #[.int .i64 3, .int .i64 0, .string p]]) (by simp [results, Tryz.results27, go_sem, p0, p1, p2, p3, p4, p5, p6, q0, q1, q2, q3, q4, q5, q6, o0, o1, o2, d1, d2, d3, d4]) rfl ?_
      refine ⟨k, n, s, 3, 0, p, by have := HS.out; omega, by have := HP.out; omega, hn, in0, rfl, HBJ.out.trans ?_⟩
      (go_light; repeat (first | with_reducible exact Below.refl _ _ | (with_reducible refine Below.setCell ?_ ?_ _; rotate_left; (focus first | (simp; done) | (simp; omega) | omega)) | (with_reducible refine Below.alloc ?_ ?_ _; rotate_left; (focus first | (simp; done) | (simp; omega) | omega)) | with_reducible refine Below.drew ?_))
end Lk
end Go.Proofs.YtdcdoeolaongkaaGreatDoor
namespace Go.Proofs.YtdcdoeolaongkaaGreatDoor
namespace Lk
open Go.ChangeShapes Go.WideShapes Go.ChangeAt Go.RowKit Go.Shelf
open Go.Proofs.YtdcdoeolaongkaaGreatDoor.Dr
set_option linter.unusedVariables false
set_option linter.unusedSimpArgs false
set_option maxRecDepth 100000
theorem call_length {n : Int} {s : ByteArray} (hv : vok 3 n s = true) (hs : s.size ≤ 1048576) (g : Nat) (w : World) (hg : g < w.heap.size) (hT : Tabs w) (c0 : w.cell? ⟨g, 0, none⟩ = some (.int .i64 3)) (c1 : w.cell? ⟨g, 1, none⟩ = some (.int .i64 n)) (c2 : w.cell? ⟨g, 2, none⟩ = some (.string s)) :
    Calls Tryz.prog 20 #[.int .i64 2, .slice (some ⟨g, 0, none⟩) 1 1] w fun e w' => e = .returned (Rd.tV 1 (Lib.runeCount s) ⟨#[]⟩ 0) ∧ Below w.heap.size w w' := by
  have hR : Ca.RVO w (.slice (some ⟨g, 0, none⟩) 1 1) [((3 : Int), n, s)] := ⟨_, _, rfl, fun _ => ⟨g, 0, rfl, hg, fun i hi => by
    have : i = 0 := by simp at hi; omega
    subst this
    exact ⟨by simpa using c0, by simpa using c1, by simpa using c2⟩⟩⟩
  have h := Ca.callI_2 [((3 : Int), n, s)] (some ⟨g, 0, none⟩) 1 w (by simp) hR (by intro t ht; rw [List.mem_singleton] at ht; subst ht; exact hs) hT (by intro t ht; rw [List.mem_singleton] at ht; subst ht; exact hv) (by show (Mp.gvK 2 [3] == -1) = false; decide) (by show (Ca.nullsA [((3 : Int), n, s)] && (2 : Int) != 6) = false; simp [Ca.nullsA]) (fun V => V = Rd.tV 1 (Lib.runeCount s) ⟨#[]⟩ 0)
    (fun W hW => Ca.length_work 3 n s (some ⟨g, 0, none⟩) 1 W (hR.below hW) hs)
  refine h.mono ?_
  rintro e w' ⟨V, rfl, rfl, hb⟩
  exact ⟨rfl, hb⟩
/-- What Like says of a pattern that is a value. -/
def Pat (n : Int) (s p : ByteArray) (b : Bool) : Prop := vok 3 0 p = true → likeR 3 n s 3 0 p = (4, zB b, 0)
theorem pat_of {n : Int} {s p : ByteArray} {b : Bool} {cs : List Int} (hv : vok 3 n s = true) (hs : chars s = some cs) (h : ∀ cp, chars p = some cp → (Mt (prt false cp) cs ↔ b = true)) : Pat n s p b := by
  classical
  intro hp
  obtain ⟨cp, hcp, _⟩ := vok_text hp
  unfold likeR
  rw [if_neg (by rw [hv, hp]; simp), if_neg (by simp), if_neg (by simp), hs, hcp]
  have := h cp hcp
  show ((4 : Int), zB (decide (Mt (prt false cp) cs)), (0 : Int)) = _
  have e : decide (Mt (prt false cp) cs) = b := by
    cases b
    · simp at this; simpa using this
    · simp at this; simpa using this
  rw [e]
theorem pat_is {n : Int} {s t p : ByteArray} {cs ct : List Int} (hv : vok 3 n s = true) (hs : chars s = some cs) (ht : chars t = some ct) (e : bytesN p 0 = escB (bytesN t 0)) : Pat n s p (s.toList == t.toList) :=
  pat_of hv hs fun cp hp => by
    rw [like_is hs ht hp e, ByteArray.toList_eq, ByteArray.toList_eq]
    simp only [beq_iff_eq]
    exact ⟨fun h => by rw [h], fun h => bytes_inj h⟩
theorem bytesN_app (a b : ByteArray) : bytesN (a ++ b) 0 = bytesN a 0 ++ bytesN b 0 := by
  unfold bytesN
  rw [List.drop_zero, List.drop_zero, List.drop_zero, ByteArray.data_append, Array.toList_append, List.map_append]
theorem pat_in {n : Int} {s t q : ByteArray} {cs ct : List Int} (hv : vok 3 n s = true) (hs : chars s = some cs) (ht : chars t = some ct) (e : bytesN q 0 = escB (bytesN t 0)) : Pat n s (⟨#[37]⟩ ++ q ++ ⟨#[37]⟩) (holdsB s t) :=
  pat_of hv hs fun cp hp => by
    rw [like_in hs ht hp (by rw [bytesN_app, bytesN_app, e]; rfl)]
    unfold holdsB
    simp only [decide_eq_true_eq]
theorem pat_lines {n : Int} {s p : ByteArray} {cs : List Int} {m : Nat} (hv : vok 3 n s = true) (hs : chars s = some cs) (e : bytesN p 0 = List.replicate m 95) (hm : cs.length = m) : Pat n s p true :=
  pat_of hv hs fun cp hp => by
    rw [like_lines hs hp e]; simp [hm]
theorem pat_more {n : Int} {s p : ByteArray} {cs : List Int} {m : Nat} (hv : vok 3 n s = true) (hs : chars s = some cs) (e : bytesN p 0 = List.replicate m 95) (hm : cs.length = m) : Pat n s (p ++ ⟨#[95]⟩) false :=
  pat_of hv hs fun cp hp => by
    have e2 : bytesN (p ++ ⟨#[95]⟩) 0 = List.replicate (m + 1) 95 := by
      rw [bytesN_app, e, List.replicate_succ']; rfl
    rw [like_lines hs hp e2]; simp; omega
theorem lines_step {p : ByteArray} {m : Nat} (e : bytesN p 0 = List.replicate m 95) : bytesN (p ++ ⟨#[95]⟩) 0 = List.replicate (m + 1) 95 := by
  rw [bytesN_app, e, List.replicate_succ']; rfl
/-- The first byte of a text, below 128, is a text. -/
theorem chars_one (x : ByteArray) (h : 0 < x.size) (h1 : ((x[0]'h).toNat : Int) < 128) : chars (x.extract 0 1) = some [((x[0]'h).toNat : Int)] := by
  have hz : (x.extract 0 1).size = 1 := by rw [ByteArray.size_extract]; omega
  have hg : (x.extract 0 1)[0]'(by omega) = x[0]'h := by rw [ByteArray.getElem_extract]
  unfold chars
  rw [hz]
  have hd := dec_A (x.extract 0 1) 0 (by omega) (by rw [hg]; exact h1)
  rw [hg] at hd
  rw [chF, if_pos (by omega), hd, if_neg (by simp; omega), chF_end _ _ _ (by rw [hz]; simp)]
  simp
end Lk
end Go.Proofs.YtdcdoeolaongkaaGreatDoor
namespace Go.Proofs.YtdcdoeolaongkaaGreatDoor
namespace Lk
open Go.ChangeShapes Go.WideShapes Go.ChangeAt Go.RowKit Go.Shelf
open Go.Proofs.YtdcdoeolaongkaaGreatDoor.Dr
set_option linter.unusedVariables false
set_option linter.unusedSimpArgs false
set_option maxRecDepth 100000
abbrev T3 := Int × Int × ByteArray
/-- The four drawn values, in their blocks and in the row. -/
structure Four (wr : World) (a b g : Nat) (v0 v1 v2 v3 : T3) : Prop where
  h0 : Holds wr a v0.1 v0.2.1 v0.2.2
  h1 : Holds wr (a + 1) v1.1 v1.2.1 v1.2.2
  h2 : Holds wr b v2.1 v2.2.1 v2.2.2
  h3 : Holds wr (b + 1) v3.1 v3.2.1 v3.2.2
  gl : g < wr.heap.size
  row : ∀ i (h : i < 4), wr.cell? ⟨g, i * 3, none⟩ = some (.int .i64 ([v0, v1, v2, v3][i]'h).1) ∧ wr.cell? ⟨g, i * 3 + 1, none⟩ = some (.int .i64 ([v0, v1, v2, v3][i]'h).2.1) ∧ wr.cell? ⟨g, i * 3 + 2, none⟩ = some (.string ([v0, v1, v2, v3][i]'h).2.2)
theorem Four.below {w w' : World} {a b g : Nat} {v0 v1 v2 v3 : T3} (h : Four w a b g v0 v1 v2 v3) (hb : Below w.heap.size w w') : Four w' a b g v0 v1 v2 v3 :=
  ⟨h.h0.below hb h.h0.lt, h.h1.below hb h.h1.lt, h.h2.below hb h.h2.lt, h.h3.below hb h.h3.lt, Nat.lt_of_lt_of_le h.gl hb.size, fun i hi => by
    obtain ⟨e1, e2, e3⟩ := h.row i hi
    exact ⟨(hb.cell (p := ⟨g, i * 3, none⟩) h.gl).trans e1, (hb.cell (p := ⟨g, i * 3 + 1, none⟩) h.gl).trans e2, (hb.cell (p := ⟨g, i * 3 + 2, none⟩) h.gl).trans e3⟩⟩
/-- A row of four texts. -/
structure PR (wx : World) (g : Nat) (p0 p1 p2 p3 : ByteArray) : Prop where
  gl : g < wx.heap.size
  row : ∀ i (h : i < 4), wx.cell? ⟨g, i, none⟩ = some (.string ([p0, p1, p2, p3][i]'h))
theorem PR.below {w w' : World} {B g : Nat} {p0 p1 p2 p3 : ByteArray} (h : PR w g p0 p1 p2 p3) (hb : Below B w w') (hB : g < B) : PR w' g p0 p1 p2 p3 :=
  ⟨Nat.lt_of_lt_of_le h.gl hb.size, fun i hi => (hb.cell (p := ⟨g, i, none⟩) hB).trans (h.row i hi)⟩
theorem PR.mk4 {wx : World} {g : Nat} {p0 p1 p2 p3 : ByteArray} (h : g < wx.heap.size) (c0 : wx.cell? ⟨g, 0, none⟩ = some (.string p0)) (c1 : wx.cell? ⟨g, 1, none⟩ = some (.string p1)) (c2 : wx.cell? ⟨g, 2, none⟩ = some (.string p2)) (c3 : wx.cell? ⟨g, 3, none⟩ = some (.string p3)) : PR wx g p0 p1 p2 p3 :=
  ⟨h, fun i hi => by
    match i, hi with
    | 0, _ => exact c0
    | 1, _ => exact c1
    | 2, _ => exact c2
    | 3, _ => exact c3⟩
/-- A row of four truths. -/
structure BR (wx : World) (g : Nat) (p0 p1 p2 p3 : Bool) : Prop where
  gl : g < wx.heap.size
  row : ∀ i (h : i < 4), wx.cell? ⟨g, i, none⟩ = some (.bool ([p0, p1, p2, p3][i]'h))
theorem BR.below {w w' : World} {B g : Nat} {p0 p1 p2 p3 : Bool} (h : BR w g p0 p1 p2 p3) (hb : Below B w w') (hB : g < B) : BR w' g p0 p1 p2 p3 :=
  ⟨Nat.lt_of_lt_of_le h.gl hb.size, fun i hi => (hb.cell (p := ⟨g, i, none⟩) hB).trans (h.row i hi)⟩
theorem BR.mk4 {wx : World} {g : Nat} {p0 p1 p2 p3 : Bool} (h : g < wx.heap.size) (c0 : wx.cell? ⟨g, 0, none⟩ = some (.bool p0)) (c1 : wx.cell? ⟨g, 1, none⟩ = some (.bool p1)) (c2 : wx.cell? ⟨g, 2, none⟩ = some (.bool p2)) (c3 : wx.cell? ⟨g, 3, none⟩ = some (.bool p3)) : BR wx g p0 p1 p2 p3 :=
  ⟨h, fun i hi => by
    match i, hi with
    | 0, _ => exact c0
    | 1, _ => exact c1
    | 2, _ => exact c2
    | 3, _ => exact c3⟩
theorem sizes4 {p0 p1 p2 p3 : ByteArray} (h0 : p0.size ≤ 4000) (h1 : p1.size ≤ 4000) (h2 : p2.size ≤ 4000) (h3 : p3.size ≤ 4000) (i : Nat) (h : i < 4) : ([p0, p1, p2, p3][i]'h).size ≤ 4000 := by
  match i, h with
  | 0, _ => exact h0
  | 1, _ => exact h1
  | 2, _ => exact h2
  | 3, _ => exact h3
theorem pats4 {n : Int} {s p0 p1 p2 p3 : ByteArray} {b0 b1 b2 b3 : Bool} (h0 : Pat n s p0 b0) (h1 : Pat n s p1 b1) (h2 : Pat n s p2 b2) (h3 : Pat n s p3 b3) (i : Nat) (h : i < 4) : Pat n s ([p0, p1, p2, p3][i]'h) ([b0, b1, b2, b3][i]'h) := by
  match i, h with
  | 0, _ => exact h0
  | 1, _ => exact h1
  | 2, _ => exact h2
  | 3, _ => exact h3
theorem esc_size {e t : ByteArray} (h : bytesN e 0 = escB (bytesN t 0)) (ht : t.size ≤ 700) : e.size ≤ 1400 := by
  have h1 := bytesN_len e
  have h2 := bytesN_len t
  have h3 := escB_len (bytesN t 0)
  rw [h] at h1; omega
def okT (v : T3) : Prop := v.1 = 3 ∧ vok 3 v.2.1 v.2.2 = true
theorem sz4 {v0 v1 v2 v3 : T3} (h0 : v0.2.2.size ≤ 700) (h1 : v1.2.2.size ≤ 700) (h2 : v2.2.2.size ≤ 700) (h3 : v3.2.2.size ≤ 700) (i : Nat) (h : i < 4) : ([v0, v1, v2, v3][i]'h).2.2.size ≤ 700 := by
  match i, h with
  | 0, _ => exact h0
  | 1, _ => exact h1
  | 2, _ => exact h2
  | 3, _ => exact h3
set_option maxHeartbeats 32000000 in
theorem liked_law (la lb : Option Addr) (ln lc mn mc : Nat) (w : World) (hn : ln ≤ maxLen) (hm : mn ≤ maxLen) (hr : Dr.Read w la ln) (hq : Dr.Read w lb mn) (hT : Tabs w) :
    Calls Tryz.prog 7 #[.slice la ln lc, .slice lb mn mc] w fun e w' => e = .returned (.bool true) ∧ Below w.heap.size w w' := by
  unfold maxLen at hn hm
  by_cases h1 : 1048576 < ln
  · have h1i : (1048576 : Int) < ln := by omega
    go_enter Tryz.func7, Tryz.ntmps7
    go_wp2
    all_goals
      go_ret
      exact ⟨rfl, Below.refl _ _⟩
  have h1i : ¬ (1048576 : Int) < ln := by omega
  by_cases h2 : 1048576 < mn
  · have h2i : (1048576 : Int) < mn := by omega
    go_enter Tryz.func7, Tryz.ntmps7
    go_wp2
    all_goals
      go_ret
      exact ⟨rfl, Below.refl _ _⟩
  have h2i : ¬ (1048576 : Int) < mn := by omega
  go_enter Tryz.func7, Tryz.ntmps7
  go_wp2_with (go_at_call 27; fail)
  refine (drawLike_any la ln lc _ (by omega) hr).mono ?_
  rintro e w1 ⟨k0, n0, s, k1, n1, x, hs, hx, hi0, hi1, rfl, bw1⟩
  have hq1 := hq.below bw1
  have hy1 := bw1.size
  clear hr hq
  go_wp2_with (go_at_call 27; fail)
  refine (drawLike_any lb mn mc _ (by omega) (hq1.below (by (go_light; repeat (first | with_reducible exact Below.refl _ _ | (with_reducible refine Below.setCell ?_ ?_ _; rotate_left; (focus first | (simp; done) | (simp; omega) | omega)) | (with_reducible refine Below.alloc ?_ ?_ _; rotate_left; (focus first | (simp; done) | (simp; omega) | omega)) | with_reducible refine Below.drew ?_))))).mono ?_
  rintro e w2 ⟨k2, n2, t, k3, n3, y, ht, hy, hi2, hi3, rfl, hb2⟩
  have A2 : Holds w2 w1.heap.size k0 n0 s := Holds.below ⟨by simp [go_sem], by simp [go_sem], by simp [go_sem], by simp [go_sem], by simp [go_sem], by simp [go_sem], (by first | (simp; done) | (simp; omega))⟩ hb2 (by first | (simp; done) | (simp; omega))
  have B2 : Holds w2 (w1.heap.size + 1) k1 n1 x := Holds.below ⟨by simp [go_sem], by simp [go_sem], by simp [go_sem], by simp [go_sem], by simp [go_sem], by simp [go_sem], (by first | (simp; done) | (simp; omega))⟩ hb2 (by first | (simp; done) | (simp; omega))
  have bw2 : Below w.heap.size w w2 := (bw1.trans (Below.mono (B := w1.heap.size) (by (go_light; repeat (first | with_reducible exact Below.refl _ _ | (with_reducible refine Below.setCell ?_ ?_ _; rotate_left; (focus first | (simp; done) | (simp; omega) | omega)) | (with_reducible refine Below.alloc ?_ ?_ _; rotate_left; (focus first | (simp; done) | (simp; omega) | omega)) | with_reducible refine Below.drew ?_))) (by omega))).trans (hb2.mono (by first | (simp; done) | (simp; omega)))
  have hy2 := bw2.size
  have hl2 := B2.lt
  clear hb2 hq1
  obtain ⟨a0, a1, a2, a3, a4, a5, a6⟩ := A2
  obtain ⟨b0, b1, b2, b3, b4, b5, b6⟩ := B2
  go_wp2
  go_loopw [46] (fun i wr => ∃ j : Nat, j ≤ 4 ∧ i = .int .i64 j ∧ Four wr w1.heap.size w2.heap.size (w2.heap.size + 1 + 1) (k0, n0, s) (k1, n1, x) (k2, n2, t) (k3, n3, y) ∧ Below w.heap.size w wr ∧ Hid (∀ m (h : m < 4), m < j → okT ([(k0, n0, s), (k1, n1, x), (k2, n2, t), (k3, n3, y)][m]'h))) (fun i _ => 4 - (intOf i).toNat)
  case atStart =>
    refine ⟨0, by omega, rfl, ⟨?_, ?_, ?_, ?_, by simp, ?_⟩, bw2.trans (Below.mono (B := w2.heap.size) (by (go_light; repeat (first | with_reducible exact Below.refl _ _ | (with_reducible refine Below.setCell ?_ ?_ _; rotate_left; (focus first | (simp; done) | (simp; omega) | omega)) | (with_reducible refine Below.alloc ?_ ?_ _; rotate_left; (focus first | (simp; done) | (simp; omega) | omega)) | with_reducible refine Below.drew ?_))) hy2), (fun m hm hj => by omega : ∀ m (h : m < 4), m < 0 → okT ([(k0, n0, s), (k1, n1, x), (k2, n2, t), (k3, n3, y)][m]'h))⟩
    · exact Holds.below (w := w2) (B := w2.heap.size) ⟨a0, a1, a2, a3, a4, a5, a6⟩ (by (go_light; repeat (first | with_reducible exact Below.refl _ _ | (with_reducible refine Below.setCell ?_ ?_ _; rotate_left; (focus first | (simp; done) | (simp; omega) | omega)) | (with_reducible refine Below.alloc ?_ ?_ _; rotate_left; (focus first | (simp; done) | (simp; omega) | omega)) | with_reducible refine Below.drew ?_))) a6
    · exact Holds.below (w := w2) (B := w2.heap.size) ⟨b0, b1, b2, b3, b4, b5, b6⟩ (by (go_light; repeat (first | with_reducible exact Below.refl _ _ | (with_reducible refine Below.setCell ?_ ?_ _; rotate_left; (focus first | (simp; done) | (simp; omega) | omega)) | (with_reducible refine Below.alloc ?_ ?_ _; rotate_left; (focus first | (simp; done) | (simp; omega) | omega)) | with_reducible refine Below.drew ?_))) b6
    · exact ⟨by simp [go_sem], by simp [go_sem], by simp [go_sem], by simp [go_sem], by simp [go_sem], by simp [go_sem], (by first | (simp; done) | (simp; omega))⟩
    · exact ⟨by simp [go_sem], by simp [go_sem], by simp [go_sem], by simp [go_sem], by simp [go_sem], by simp [go_sem], (by first | (simp; done) | (simp; omega))⟩
    · intro i hi
      match i, hi with
      | 0, _ => simp [go_sem]
      | 1, _ => simp [go_sem]
      | 2, _ => simp [go_sem]
      | 3, _ => simp [go_sem]
  case round =>
    obtain ⟨j, hj, rfl, hF, hbel, HOK⟩ := hrel
    clear a0 a1 a2 a3 a4 a5 a6 b0 b1 b2 b3 b4 b5 b6
    by_cases hlt : j < 4
    · have hlt' : (j : Int) < 4 := by omega
      obtain ⟨e1, e2, e3⟩ := hF.row j hlt
      have hz := sz4 (v0 := (k0, n0, s)) (v1 := (k1, n1, x)) (v2 := (k2, n2, t)) (v3 := (k3, n3, y)) hs hx ht hy j hlt
      have HF : Hid (Four wr w1.heap.size w2.heap.size (w2.heap.size + 1 + 1) (k0, n0, s) (k1, n1, x) (k2, n2, t) (k3, n3, y)) := hF
      have hgl := hF.gl
      have HST : Hid (okT ([(k0, n0, s), (k1, n1, x), (k2, n2, t), (k3, n3, y)][j]'hlt) → ∀ m (h : m < 4), m < j + 1 → okT ([(k0, n0, s), (k1, n1, x), (k2, n2, t), (k3, n3, y)][m]'h)) := (fun ho m h hm => by
        by_cases e : m = j
        · subst e; exact ho
        · exact HOK.out m h (by omega) : okT ([(k0, n0, s), (k1, n1, x), (k2, n2, t), (k3, n3, y)][j]'hlt) → ∀ m (h : m < 4), m < j + 1 → okT ([(k0, n0, s), (k1, n1, x), (k2, n2, t), (k3, n3, y)][m]'h))
      clear hF HOK
      generalize ([(k0, n0, s), (k1, n1, x), (k2, n2, t), (k3, n3, y)][j]'hlt) = v at *
      obtain ⟨kj, nj, sj⟩ := v
      simp only at e1 e2 e3 hz
      by_cases hk : kj = 3
      · subst hk
        go_wp2_with (go_at_call 14; fail)
        refine (vok_spec 3 nj sj _ (by omega)).mono ?_
        rintro e w3 ⟨rfl, hb3⟩
        have bj : Below wr.heap.size wr w3 := Below.trans (by (go_light; repeat (first | with_reducible exact Below.refl _ _ | (with_reducible refine Below.setCell ?_ ?_ _; rotate_left; (focus first | (simp; done) | (simp; omega) | omega)) | (with_reducible refine Below.alloc ?_ ?_ _; rotate_left; (focus first | (simp; done) | (simp; omega) | omega)) | with_reducible refine Below.drew ?_))) (hb3.mono (by simp))
        have HF3 : Hid (Four w3 w1.heap.size w2.heap.size (w2.heap.size + 1 + 1) (k0, n0, s) (k1, n1, x) (k2, n2, t) (k3, n3, y)) := HF.out.below bj
        have bw3 : Below w.heap.size w w3 := hbel.trans (bj.mono hbel.size)
        clear hb3 bj
        cases hv : vok 3 nj sj
        · go_wp2
          all_goals
            go_ret
            exact ⟨rfl, bw3⟩
        · have HS2 : Hid _ := HST.out ⟨rfl, hv⟩
          clear hv
          go_wp2
          go_roundw
          case rel => exact ⟨j + 1, by omega, by go_num, HF3.out, bw3, HS2⟩
          case measure => simp [intOf]; omega
      · have hk' : (kj == 3) = false := by rw [beq_eq_false_iff_ne]; exact hk
        go_wp2
        all_goals
          go_ret
          refine ⟨rfl, hbel.trans (Below.mono (B := wr.heap.size) (by (go_light; repeat (first | with_reducible exact Below.refl _ _ | (with_reducible refine Below.setCell ?_ ?_ _; rotate_left; (focus first | (simp; done) | (simp; omega) | omega)) | (with_reducible refine Below.alloc ?_ ?_ _; rotate_left; (focus first | (simp; done) | (simp; omega) | omega)) | with_reducible refine Below.drew ?_))) hbel.size)⟩
    · have hlt' : ¬ (j : Int) < 4 := by omega
      have j4 : j = 4 := by omega
      have O0 : okT (k0, n0, s) := HOK.out 0 (by omega) (by omega)
      have O1 : okT (k1, n1, x) := HOK.out 1 (by omega) (by omega)
      have O2 : okT (k2, n2, t) := HOK.out 2 (by omega) (by omega)
      obtain ⟨rfl, V0⟩ : k0 = 3 ∧ vok 3 n0 s = true := O0
      obtain ⟨rfl, V1⟩ : k1 = 3 ∧ vok 3 n1 x = true := O1
      obtain ⟨rfl, V2⟩ : k2 = 3 ∧ vok 3 n2 t = true := O2
      have A3 : Holds wr w1.heap.size 3 n0 s := hF.h0
      have B3 : Holds wr (w1.heap.size + 1) 3 n1 x := hF.h1
      have C3 : Holds wr w2.heap.size 3 n2 t := hF.h2
      have HV0 : Hid (vok 3 n0 s = true) := V0
      have HV1 : Hid (vok 3 n1 x = true) := V1
      have HV2 : Hid (vok 3 n2 t = true) := V2
      clear hF HOK V0 V1 V2 j4 hlt hj
      have d1 : w1.heap.size ≠ w2.heap.size := by omega
      have d2 : w2.heap.size ≠ w1.heap.size := by omega
      have d3 : w1.heap.size + 1 ≠ w2.heap.size := by omega
      have d4 : w2.heap.size ≠ w1.heap.size + 1 := by omega
      have hbs := hbel.size
      have m2 : (mn : Int).tmod 2 = ((mn % 2 : Nat) : Int) := rfl
      have m3 : (mn : Int).tmod 3 = ((mn % 3 : Nat) : Int) := rfl
      generalize mn % 2 = r2 at *
      generalize mn % 3 = r3 at *
      obtain ⟨a0, a1, a2, a3, a4, a5, a6⟩ := A3
      obtain ⟨b0, b1, b2, b3, b4, b5, b6⟩ := B3
      obtain ⟨c0, c1, c2, c3, c4, c5, c6⟩ := C3
      go_upto_if 62 with fail
      go_cut [62, 63] from 62 to 63 (fun _ _ wx => ∃ (nt : Int) (T : ByteArray), T.size ≤ 700 ∧ Hid (∃ ct, chars T = some ct) ∧ Holds wx w1.heap.size 3 n0 s ∧ Holds wx (w1.heap.size + 1) 3 n1 x ∧ Holds wx w2.heap.size 3 nt T ∧ Below w.heap.size w wx)
      case first =>
        have A3 : Holds wr w1.heap.size 3 n0 s := ⟨a0, a1, a2, a3, a4, a5, a6⟩
        have B3 : Holds wr (w1.heap.size + 1) 3 n1 x := ⟨b0, b1, b2, b3, b4, b5, b6⟩
        cases hb : ((r2 : Int) == 0)
        · go_wp2_with fail
          go_meet
          exact ⟨n2, t, ht, (let ⟨ct, h, _⟩ := vok_text HV2.out; ⟨ct, h⟩ : ∃ ct, chars t = some ct), A3, B3, ⟨c0, c1, c2, c3, c4, c5, c6⟩, hbel⟩
        · go_wp2_with fail
          go_meet
          refine ⟨n0, s, hs, (let ⟨ct, h, _⟩ := vok_text HV0.out; ⟨ct, h⟩ : ∃ ct, chars s = some ct), A3.below (B := w2.heap.size) (by (go_light; repeat (first | with_reducible exact Below.refl _ _ | (with_reducible refine Below.setCell ?_ ?_ _; rotate_left; (focus first | (simp; done) | (simp; omega) | omega)) | (with_reducible refine Below.alloc ?_ ?_ _; rotate_left; (focus first | (simp; done) | (simp; omega) | omega)) | with_reducible refine Below.drew ?_))) (by omega), B3.below (B := w2.heap.size) (by (go_light; repeat (first | with_reducible exact Below.refl _ _ | (with_reducible refine Below.setCell ?_ ?_ _; rotate_left; (focus first | (simp; done) | (simp; omega) | omega)) | (with_reducible refine Below.alloc ?_ ?_ _; rotate_left; (focus first | (simp; done) | (simp; omega) | omega)) | with_reducible refine Below.drew ?_))) (by omega), ⟨by simp [go_sem, *], by simp [go_sem, *], by simp [go_sem, *], by simp [go_sem, *], by simp [go_sem, *], by simp [go_sem, *], (by first | (simp; done) | (simp; omega))⟩, hbel.trans (Below.mono (B := w2.heap.size) (by (go_light; repeat (first | with_reducible exact Below.refl _ _ | (with_reducible refine Below.setCell ?_ ?_ _; rotate_left; (focus first | (simp; done) | (simp; omega) | omega)) | (with_reducible refine Below.alloc ?_ ?_ _; rotate_left; (focus first | (simp; done) | (simp; omega) | omega)) | with_reducible refine Below.drew ?_))) hy2)⟩
      case rest =>
        obtain ⟨nt, T, hTz, HCT, A4, B4, C4, bw4⟩ := hcut
        clear a0 a1 a2 a3 a4 a5 a6 b0 b1 b2 b3 b4 b5 b6 c0 c1 c2 c3 c4 c5 c6 m2 hbel
        obtain ⟨b0, b1, b2, b3, b4, b5, b6⟩ := B4
        go_upto_region 13 with fail
        go_cut [79] from 64 to 79 (fun v wx => ∃ b : Bool, v = .bool b ∧ Hid (b = true → 0 < x.size ∧ ∃ ct, chars (x.extract 0 1) = some ct) ∧ Holds wx w1.heap.size 3 n0 s ∧ Holds wx (w1.heap.size + 1) 3 n1 x ∧ Holds wx w2.heap.size 3 nt T ∧ Below w.heap.size w wx)
        case first =>
          by_cases q0 : r3 = 0
          · subst q0
            by_cases q1 : 0 < x.size
            · have q1i : (0 : Int) < x.size := by omega
              by_cases q2 : ((x[0]'q1).toNat : Int) < 128
              · have HX1 : Hid (∃ ct, chars (x.extract 0 1) = some ct) := (⟨_, chars_one x q1 q2⟩ : ∃ ct, chars (x.extract 0 1) = some ct)
                go_wp2_with fail
                go_meet
                exact ⟨true, by simp, (fun _ => ⟨q1, HX1.out⟩), A4, ⟨b0, b1, b2, b3, b4, b5, b6⟩, C4, bw4⟩
              · go_wp2_with fail
                go_meet
                exact ⟨false, by simp, (fun h => by cases h), A4, ⟨b0, b1, b2, b3, b4, b5, b6⟩, C4, bw4⟩
            · have q1i : ¬ (0 : Int) < x.size := by omega
              go_wp2_with fail
              go_meet
              exact ⟨false, by simp, (fun h => by cases h), A4, ⟨b0, b1, b2, b3, b4, b5, b6⟩, C4, bw4⟩
          · have q0' : ((r3 : Int) == 0) = false := by rw [beq_eq_false_iff_ne]; omega
            go_wp2_with fail
            go_meet
            exact ⟨false, by simp, (fun h => by cases h), A4, ⟨b0, b1, b2, b3, b4, b5, b6⟩, C4, bw4⟩
        case rest =>
          obtain ⟨b, rfl, HB, A5, B5, C5, bw5⟩ := hcut
          clear b0 b1 b2 b3 b4 b5 b6 A4 C4 bw4 m3
          have A5' := A5
          obtain ⟨a0, a1, a2, a3, a4, a5, a6⟩ := A5'
          obtain ⟨b0, b1, b2, b3, b4, b5, b6⟩ := B5
          obtain ⟨c0, c1, c2, c3, c4, c5, c6⟩ := C5
          go_upto_if 79 with fail
          go_cut [79, 80, 81, 82, 83] from 79 to 83 (fun _ _ _ _ _ wx => ∃ (nt : Int) (T : ByteArray), T.size ≤ 700 ∧ Hid (∃ ct, chars T = some ct) ∧ Holds wx w1.heap.size 3 n0 s ∧ Holds wx w2.heap.size 3 nt T ∧ Below w.heap.size w wx)
          case first =>
            cases b
            · go_wp2_with fail
              go_meet
              exact ⟨nt, T, hTz, HCT, A5, ⟨c0, c1, c2, c3, c4, c5, c6⟩, bw5⟩
            · obtain ⟨hx0, hX1⟩ := HB.out rfl
              have hx1 : 1 ≤ x.size := hx0
              have hx1i : (1 : Int) ≤ x.size := by omega
              have HX1 : Hid (∃ ct, chars (x.extract 0 1) = some ct) := hX1
              clear HB hX1
              go_wp2_with fail
              go_meet
              refine ⟨nt, x.extract 0 1, by rw [ByteArray.size_extract]; omega, HX1, A5.below (B := w2.heap.size) (by (go_light; repeat (first | with_reducible exact Below.refl _ _ | (with_reducible refine Below.setCell ?_ ?_ _; rotate_left; (focus first | (simp; done) | (simp; omega) | omega)) | (with_reducible refine Below.alloc ?_ ?_ _; rotate_left; (focus first | (simp; done) | (simp; omega) | omega)) | with_reducible refine Below.drew ?_))) (by omega), ⟨by simp [go_sem, *], by simp [go_sem, *], by simp [go_sem, *], by simp [go_sem, *], by simp [go_sem, *], by simp [go_sem, *], (by first | (simp; done) | (simp; omega))⟩, bw5.trans (Below.mono (B := w2.heap.size) (by (go_light; repeat (first | with_reducible exact Below.refl _ _ | (with_reducible refine Below.setCell ?_ ?_ _; rotate_left; (focus first | (simp; done) | (simp; omega) | omega)) | (with_reducible refine Below.alloc ?_ ?_ _; rotate_left; (focus first | (simp; done) | (simp; omega) | omega)) | with_reducible refine Below.drew ?_))) hy2)⟩
          case rest =>
            obtain ⟨nu, U, hUz, HCU, A6, C6, bw6⟩ := hcut
            clear a0 a1 a2 a3 a4 a5 a6 b0 b1 b2 b3 b4 b5 b6 c0 c1 c2 c3 c4 c5 c6 A5 bw5 HB HCT hTz HV1 HV2
            have hy6 := bw6.size
            have A6' := A6
            obtain ⟨a0, a1, a2, a3, a4, a5, a6⟩ := A6'
            go_wp2_with (go_at_call 20; fail)
            refine (call_length HV0.out (by omega) wc.heap.size _ (by simp) (tabs_below hT (bw6.alloc hy6 _)) (by simp [go_sem]) (by simp [go_sem]) (by simp [go_sem])).mono ?_
            obtain ⟨cs, hcs, hcl⟩ := vok_text HV0.out
            have hrc := (count_eq s cs hcs).1
            obtain ⟨m, hmm⟩ : ∃ m : Nat, cs.length = m := ⟨_, rfl⟩
            rw [hrc, hmm]
            rw [hmm] at hcl
            have HCS : Hid (chars s = some cs) := hcs
            have HMM : Hid (cs.length = m) := hmm
            clear hcs hrc hmm
            rintro e w7 ⟨rfl, hb7⟩
            have b7 : Below wc.heap.size wc w7 := (below_alloc wc _).trans (hb7.mono (by simp))
            have A7 := A6.below b7 A6.lt
            have C7 := C6.below b7 C6.lt
            have bw7 : Below w.heap.size w w7 := bw6.trans (b7.mono hy6)
            have hy7 := bw7.size
            have hm1 : (m : Int) ≤ 255 := by omega
            have hm0 : ¬ (m : Int) < 0 := by omega
            have hm2 : ¬ (255 : Int) < m := by omega
            have hl7 := C7.lt
            clear hb7 b7 a0 a1 a2 a3 a4 a5 a6 A6 C6
            simp only [Rd.tV]
            go_wp2
            go_loopw [13, 14] (fun lv i wr => ∃ (q : Nat) (p : ByteArray), q ≤ m ∧ i = .int .i64 q ∧ lv = .string p ∧ p.size ≤ q ∧ Hid (bytesN p 0 = List.replicate q 95) ∧ Holds wr w7.heap.size 1 m ⟨#[]⟩ ∧ Holds wr w1.heap.size 3 n0 s ∧ Holds wr w2.heap.size 3 nu U ∧ Below w.heap.size w wr) (fun _ i _ => m - (intOf i).toNat)
            case atStart =>
              refine ⟨0, ⟨#[]⟩, by omega, rfl, rfl, by decide, (rfl : bytesN ⟨#[]⟩ 0 = List.replicate 0 95), ⟨by simp [go_sem], by simp [go_sem], by simp [go_sem], by simp [go_sem], by simp [go_sem], by simp [go_sem], (by first | (simp; done) | (simp; omega))⟩, A7.below (B := w7.heap.size) (by (go_light; repeat (first | with_reducible exact Below.refl _ _ | (with_reducible refine Below.setCell ?_ ?_ _; rotate_left; (focus first | (simp; done) | (simp; omega) | omega)) | (with_reducible refine Below.alloc ?_ ?_ _; rotate_left; (focus first | (simp; done) | (simp; omega) | omega)) | with_reducible refine Below.drew ?_))) A7.lt, C7.below (B := w7.heap.size) (by (go_light; repeat (first | with_reducible exact Below.refl _ _ | (with_reducible refine Below.setCell ?_ ?_ _; rotate_left; (focus first | (simp; done) | (simp; omega) | omega)) | (with_reducible refine Below.alloc ?_ ?_ _; rotate_left; (focus first | (simp; done) | (simp; omega) | omega)) | with_reducible refine Below.drew ?_))) C7.lt, bw7.trans (Below.mono (B := w7.heap.size) (by (go_light; repeat (first | with_reducible exact Below.refl _ _ | (with_reducible refine Below.setCell ?_ ?_ _; rotate_left; (focus first | (simp; done) | (simp; omega) | omega)) | (with_reducible refine Below.alloc ?_ ?_ _; rotate_left; (focus first | (simp; done) | (simp; omega) | omega)) | with_reducible refine Below.drew ?_))) hy7)⟩
            case round =>
              obtain ⟨q, p, hq, rfl, rfl, hpz, HP, N8, A8, C8, bw8⟩ := hrel
              have N8' := N8
              obtain ⟨a0, a1, a2, a3, a4, a5, a6⟩ := N8'
              clear A7 C7 bw7
              by_cases hlt : q < m
              · have hltj : (q : Int) < m := by omega
                have HP2 : Hid (bytesN (p ++ ⟨#[95]⟩) 0 = List.replicate (q + 1) 95) := lines_step HP.out
                go_wp2
                go_roundw
                case rel => exact ⟨q + 1, _, by omega, by go_num, rfl, by rw [ByteArray.size_append]; show _ + 1 ≤ _; omega, HP2, N8, A8, C8, bw8⟩
                case measure => simp [intOf]; omega
              · have hltj : ¬ (q : Int) < m := by omega
                have hqm : q = m := by omega
                have HPM : Hid (bytesN p 0 = List.replicate m 95) := (by rw [← hqm]; exact HP.out : bytesN p 0 = List.replicate m 95)
                have hpz2 : p.size ≤ 300 := by omega
                clear hqm HP hlt hq
                have hl8 := N8.lt
                have hlc := C8.lt
                have hla := A8.lt
                have hy8 := bw8.size
                obtain ⟨c0, c1, c2, c3, c4, c5, c6⟩ := C8
                have C8 : Holds wr w2.heap.size 3 nu U := ⟨c0, c1, c2, c3, c4, c5, c6⟩
                go_upto_region 23 with fail
                go_cut [15] from 115 to 126 (fun v15 wx => ∃ (e1 e2 : ByteArray) (g : Nat), v15 = .slice (some ⟨g, 0, none⟩) 4 4 ∧ PR wx g e1 (⟨#[37]⟩ ++ e2 ++ ⟨#[37]⟩) p (p ++ ⟨#[95]⟩) ∧ Hid (bytesN e1 0 = escB (bytesN U 0)) ∧ Hid (bytesN e2 0 = escB (bytesN U 0)) ∧ Holds wx w1.heap.size 3 n0 s ∧ Holds wx w2.heap.size 3 nu U ∧ Below w.heap.size w wx)
                case first =>
                  go_region_held (fun W => W.cell? ⟨w2.heap.size, 2, none⟩ = some (.string U)) (first | go_keep | (rw [hcB _ _ (by omega)]; go_keep) | (rw [hcA _ _ (by omega)]; go_keep)) (first
                    | (have hh := HEA; clear hh; go_at_call 28; refine (escaped_any U _ (by omega)).mono ?_; rintro e wB ⟨eB, heB, rfl, hbB⟩; (first | (replace hbB := undrew hbB) | skip); have hzB := esc_size heB hUz; have HEB : Hid (bytesN eB 0 = escB (bytesN U 0)) := heB; clear heB; obtain ⟨hcB, hfB⟩ := bcell hbB; have BWB : Hid (Below wr.heap.size wr wB) := (bwA.trans (hbB.mono bwA.size)); have hlB : w2.heap.size < wB.heap.size := (by have := hbB.size; omega))
                    | (go_at_call 28; refine (escaped_any U _ (by omega)).mono ?_; rintro e wA ⟨eA, heA, rfl, hbA⟩; (first | (replace hbA := undrew hbA) | skip); have hzA := esc_size heA hUz; have HEA : Hid (bytesN eA 0 = escB (bytesN U 0)) := heA; clear heA; obtain ⟨hcA, hfA⟩ := bcell hbA; have bwA : Below wr.heap.size wr wA := hbA; have hlA : w2.heap.size < wA.heap.size := (by have := hbA.size; omega)))
                  all_goals
                    go_wp2_with fail
                    go_meet
                    have hBW := BWB.out
                    have hBz := hBW.size
                    first
                      | exact ⟨eA, eB, wB.heap.size, rfl, PR.mk4 (by first | (simp; done) | (simp; omega)) (by simp [go_sem]) (by simp [go_sem]) (by simp [go_sem]) (by simp [go_sem]), HEA, HEB, (A8.below hBW A8.lt).below (B := wB.heap.size) (by (go_light; repeat (first | with_reducible exact Below.refl _ _ | (with_reducible refine Below.setCell ?_ ?_ _; rotate_left; (focus first | (simp; done) | (simp; omega) | omega)) | (with_reducible refine Below.alloc ?_ ?_ _; rotate_left; (focus first | (simp; done) | (simp; omega) | omega)) | with_reducible refine Below.drew ?_))) (by omega), (C8.below hBW C8.lt).below (B := wB.heap.size) (by (go_light; repeat (first | with_reducible exact Below.refl _ _ | (with_reducible refine Below.setCell ?_ ?_ _; rotate_left; (focus first | (simp; done) | (simp; omega) | omega)) | (with_reducible refine Below.alloc ?_ ?_ _; rotate_left; (focus first | (simp; done) | (simp; omega) | omega)) | with_reducible refine Below.drew ?_))) (by omega), (bw8.trans (hBW.mono hy8)).trans (Below.mono (B := wB.heap.size) (by (go_light; repeat (first | with_reducible exact Below.refl _ _ | (with_reducible refine Below.setCell ?_ ?_ _; rotate_left; (focus first | (simp; done) | (simp; omega) | omega)) | (with_reducible refine Below.alloc ?_ ?_ _; rotate_left; (focus first | (simp; done) | (simp; omega) | omega)) | with_reducible refine Below.drew ?_))) (by omega))⟩
                      | exact ⟨eB, eA, wB.heap.size, rfl, PR.mk4 (by first | (simp; done) | (simp; omega)) (by simp [go_sem]) (by simp [go_sem]) (by simp [go_sem]) (by simp [go_sem]), HEB, HEA, (A8.below hBW A8.lt).below (B := wB.heap.size) (by (go_light; repeat (first | with_reducible exact Below.refl _ _ | (with_reducible refine Below.setCell ?_ ?_ _; rotate_left; (focus first | (simp; done) | (simp; omega) | omega)) | (with_reducible refine Below.alloc ?_ ?_ _; rotate_left; (focus first | (simp; done) | (simp; omega) | omega)) | with_reducible refine Below.drew ?_))) (by omega), (C8.below hBW C8.lt).below (B := wB.heap.size) (by (go_light; repeat (first | with_reducible exact Below.refl _ _ | (with_reducible refine Below.setCell ?_ ?_ _; rotate_left; (focus first | (simp; done) | (simp; omega) | omega)) | (with_reducible refine Below.alloc ?_ ?_ _; rotate_left; (focus first | (simp; done) | (simp; omega) | omega)) | with_reducible refine Below.drew ?_))) (by omega), (bw8.trans (hBW.mono hy8)).trans (Below.mono (B := wB.heap.size) (by (go_light; repeat (first | with_reducible exact Below.refl _ _ | (with_reducible refine Below.setCell ?_ ?_ _; rotate_left; (focus first | (simp; done) | (simp; omega) | omega)) | (with_reducible refine Below.alloc ?_ ?_ _; rotate_left; (focus first | (simp; done) | (simp; omega) | omega)) | with_reducible refine Below.drew ?_))) (by omega))⟩
                case rest =>
                  obtain ⟨e1, e2, g, rfl, hP, HE1, HE2, A9, C9, bw9⟩ := hcut
                  clear A8 C8 N8 bw8 a0 a1 a2 a3 a4 a5 a6 c0 c1 c2 c3 c4 c5 c6 hl8 hlc hla hy8
                  have hy9 := bw9.size
                  have hlc := C9.lt
                  have hla := A9.lt
                  have hgl := hP.gl
                  obtain ⟨a0, a1, a2, a3, a4, a5, a6⟩ := A9
                  have A9 : Holds wc w1.heap.size 3 n0 s := ⟨a0, a1, a2, a3, a4, a5, a6⟩
                  obtain ⟨c0, c1, c2, c3, c4, c5, c6⟩ := C9
                  go_upto_region 24 with fail
                  go_cut [16] from 127 to 137 (fun v16 wx => ∃ h : Nat, v16 = .slice (some ⟨h, 0, none⟩) 4 4 ∧ BR wx h (s.toList == U.toList) (holdsB s U) true false ∧ PR wx g e1 (⟨#[37]⟩ ++ e2 ++ ⟨#[37]⟩) p (p ++ ⟨#[95]⟩) ∧ Holds wx w1.heap.size 3 n0 s ∧ Below w.heap.size w wx)
                  case first =>
                    go_region_held3 (fun W => W.cell? ⟨w1.heap.size, 2, none⟩ = some (.string s) ∧ W.cell? ⟨w2.heap.size, 2, none⟩ = some (.string U)) (go_keep) (first | (go_at_call 29; refine (holds_any s U _ ?_ ?_).mono ?_; omega; omega; rintro e wH ⟨rfl, rfl⟩))
                    all_goals
                      go_wp2_with fail
                      go_meet
                      exact ⟨wc.heap.size, rfl, BR.mk4 (by first | (simp; done) | (simp; omega)) (by simp [go_sem]) (by simp [go_sem]) (by simp [go_sem]) (by simp [go_sem]), hP.below (B := wc.heap.size) (by (go_light; repeat (first | with_reducible exact Below.refl _ _ | (with_reducible refine Below.setCell ?_ ?_ _; rotate_left; (focus first | (simp; done) | (simp; omega) | omega)) | (with_reducible refine Below.alloc ?_ ?_ _; rotate_left; (focus first | (simp; done) | (simp; omega) | omega)) | with_reducible refine Below.drew ?_))) hgl, A9.below (B := wc.heap.size) (by (go_light; repeat (first | with_reducible exact Below.refl _ _ | (with_reducible refine Below.setCell ?_ ?_ _; rotate_left; (focus first | (simp; done) | (simp; omega) | omega)) | (with_reducible refine Below.alloc ?_ ?_ _; rotate_left; (focus first | (simp; done) | (simp; omega) | omega)) | with_reducible refine Below.drew ?_))) hla, bw9.trans (Below.mono (B := wc.heap.size) (by (go_light; repeat (first | with_reducible exact Below.refl _ _ | (with_reducible refine Below.setCell ?_ ?_ _; rotate_left; (focus first | (simp; done) | (simp; omega) | omega)) | (with_reducible refine Below.alloc ?_ ?_ _; rotate_left; (focus first | (simp; done) | (simp; omega) | omega)) | with_reducible refine Below.drew ?_))) hy9)⟩
                  case rest =>
                    obtain ⟨h, rfl, hB, hP2, A10, bw10⟩ := hcut
                    have hz1 := esc_size HE1.out hUz
                    have hz2 := esc_size HE2.out hUz
                    have HZ : Hid (∀ i (h : i < 4), ([e1, ⟨#[37]⟩ ++ e2 ++ ⟨#[37]⟩, p, p ++ ⟨#[95]⟩][i]'h).size ≤ 4000) := sizes4 (by omega) (by rw [ByteArray.size_append, ByteArray.size_append]; show 1 + _ + 1 ≤ _; omega) (by omega) (by rw [ByteArray.size_append]; show _ + 1 ≤ _; omega)
                    have HPT : Hid (∀ i (h : i < 4), Pat n0 s ([e1, ⟨#[37]⟩ ++ e2 ++ ⟨#[37]⟩, p, p ++ ⟨#[95]⟩][i]'h) ([s.toList == U.toList, holdsB s U, true, false][i]'h)) := (by
                      obtain ⟨ct, hct⟩ := HCU.out
                      exact pats4 (pat_is HV0.out HCS.out hct HE1.out) (pat_in HV0.out HCS.out hct HE2.out) (pat_lines HV0.out HCS.out HPM.out HMM.out) (pat_more HV0.out HCS.out HPM.out HMM.out) : ∀ i (h : i < 4), Pat n0 s ([e1, ⟨#[37]⟩ ++ e2 ++ ⟨#[37]⟩, p, p ++ ⟨#[95]⟩][i]'h) ([s.toList == U.toList, holdsB s U, true, false][i]'h))
                    clear a0 a1 a2 a3 a4 a5 a6 c0 c1 c2 c3 c4 c5 c6 A9 hP bw9 hlc hla hgl hy9 hz1 hz2 HE1 HE2 HPM HMM HCS HCU
                    go_wp2
                    go_loopw [140] (fun i wr => ∃ j : Nat, j ≤ 4 ∧ i = .int .i64 j ∧ BR wr h (s.toList == U.toList) (holdsB s U) true false ∧ PR wr g e1 (⟨#[37]⟩ ++ e2 ++ ⟨#[37]⟩) p (p ++ ⟨#[95]⟩) ∧ Holds wr w1.heap.size 3 n0 s ∧ Below w.heap.size w wr) (fun i _ => 4 - (intOf i).toNat)
                    case atStart => exact ⟨0, by omega, rfl, hB, hP2, A10, bw10⟩
                    case round =>
                      obtain ⟨z, hzz, rfl, hBz, hPz, hAz, bwz⟩ := hrel
                      have hyz := bwz.size
                      by_cases hlt : z < 4
                      · have hltz : (z : Int) < 4 := by omega
                        have r1 := hPz.row z hlt
                        have r2' := hBz.row z hlt
                        have hsz := HZ.out z hlt
                        have HPJ : Hid (Pat n0 s ([e1, ⟨#[37]⟩ ++ e2 ++ ⟨#[37]⟩, p, p ++ ⟨#[95]⟩][z]'hlt) ([s.toList == U.toList, holdsB s U, true, false][z]'hlt)) := HPT.out z hlt
                        have hg := hPz.gl
                        have hh := hBz.gl
                        have ha := hAz.lt
                        generalize ([e1, ⟨#[37]⟩ ++ e2 ++ ⟨#[37]⟩, p, p ++ ⟨#[95]⟩][z]'hlt) = pj at *
                        generalize ([s.toList == U.toList, holdsB s U, true, false][z]'hlt) = bj at *
                        obtain ⟨a0, a1, a2, a3, a4, a5, a6⟩ := hAz
                        have hAz : Holds wr w1.heap.size 3 n0 s := ⟨a0, a1, a2, a3, a4, a5, a6⟩
                        clear hB hP2 A10 bw10 HZ HPT
                        go_wp2_with (go_at_call 14; fail)
                        refine (vok_spec 3 0 pj _ (by omega)).mono ?_
                        rintro e w11 ⟨rfl, hb11⟩
                        have b11 : Below wr.heap.size wr w11 := Below.trans (by (go_light; repeat (first | with_reducible exact Below.refl _ _ | (with_reducible refine Below.setCell ?_ ?_ _; rotate_left; (focus first | (simp; done) | (simp; omega) | omega)) | (with_reducible refine Below.alloc ?_ ?_ _; rotate_left; (focus first | (simp; done) | (simp; omega) | omega)) | with_reducible refine Below.drew ?_))) (hb11.mono (by first | (simp; done) | (simp; omega)))
                        have h11 := b11.size
                        have hn11 : wr.heap.size < w11.heap.size := by have := hb11.size; simp at this; omega
                        have V11 : Holds w11 wr.heap.size 3 0 pj := Holds.below ⟨by simp [go_sem], by simp [go_sem], by simp [go_sem], by simp [go_sem], by simp [go_sem], by simp [go_sem], (by first | (simp; done) | (simp; omega))⟩ hb11 (by first | (simp; done) | (simp; omega))
                        have P11 := hPz.below b11 hg
                        have B11 := hBz.below b11 hh
                        have A11 := hAz.below b11 ha
                        have bw11 : Below w.heap.size w w11 := bwz.trans (b11.mono hyz)
                        have r11 := (b11.cell (p := ⟨h, z, none⟩) hh).trans r2'
                        clear hb11 b11 hPz hBz hAz bwz r1 r2' a0 a1 a2 a3 a4 a5 a6
                        have A11' := A11
                        obtain ⟨a0, a1, a2, a3, a4, a5, a6⟩ := A11'
                        obtain ⟨v0, v1, v2, v3, v4, v5, v6⟩ := V11
                        cases hv : vok 3 0 pj
                        · go_wp2
                          go_roundw
                          case rel => exact ⟨z + 1, by omega, by go_num, B11, P11, A11, bw11⟩
                          case measure => simp [intOf]; omega
                        · have HR : Hid (likeR 3 n0 s 3 0 pj = (4, zB bj, 0)) := HPJ.out hv
                          clear hv HPJ
                          go_wp2_with (go_at_call 30; fail)
                          refine (like_impl 3 n0 s 3 0 pj _ (by omega) (by omega) (tabs_below hT bw11)).mono ?_
                          rw [HR.out]
                          simp only [likeV]
                          rintro e w12 ⟨rfl, hb12⟩
                          have P12 := P11.below hb12 P11.gl
                          have B12 := B11.below hb12 B11.gl
                          have A12 := A11.below hb12 A11.lt
                          have hy11 := bw11.size
                          have bw12 : Below w.heap.size w w12 := bw11.trans (hb12.mono hy11)
                          have hh11 := B11.gl
                          have r12 := (hb12.cell (p := ⟨h, z, none⟩) hh11).trans r11
                          have hh12 := B12.gl
                          have hy12 := bw12.size
                          clear hb12 P11 B11 A11 bw11 r11 a0 a1 a2 a3 a4 a5 a6 v0 v1 v2 v3 v4 v5 v6 HR
                          cases bj
                          all_goals
                            simp only [zB, if_true, Bool.false_eq_true, if_false]
                            go_wp2
                            go_region_with (go_at_call 31; refine (truth_any _ _).mono ?_; rintro e wT ⟨rfl, rfl⟩)
                            all_goals
                              go_wp2
                              go_roundw
                              case rel => exact ⟨z + 1, by omega, by go_num, B12.below (B := w12.heap.size) (by (go_light; repeat (first | with_reducible exact Below.refl _ _ | (with_reducible refine Below.setCell ?_ ?_ _; rotate_left; (focus first | (simp; done) | (simp; omega) | omega)) | (with_reducible refine Below.alloc ?_ ?_ _; rotate_left; (focus first | (simp; done) | (simp; omega) | omega)) | with_reducible refine Below.drew ?_))) B12.gl, P12.below (B := w12.heap.size) (by (go_light; repeat (first | with_reducible exact Below.refl _ _ | (with_reducible refine Below.setCell ?_ ?_ _; rotate_left; (focus first | (simp; done) | (simp; omega) | omega)) | (with_reducible refine Below.alloc ?_ ?_ _; rotate_left; (focus first | (simp; done) | (simp; omega) | omega)) | with_reducible refine Below.drew ?_))) P12.gl, A12.below (B := w12.heap.size) (by (go_light; repeat (first | with_reducible exact Below.refl _ _ | (with_reducible refine Below.setCell ?_ ?_ _; rotate_left; (focus first | (simp; done) | (simp; omega) | omega)) | (with_reducible refine Below.alloc ?_ ?_ _; rotate_left; (focus first | (simp; done) | (simp; omega) | omega)) | with_reducible refine Below.drew ?_))) A12.lt, bw12.trans (Below.mono (B := w12.heap.size) (by (go_light; repeat (first | with_reducible exact Below.refl _ _ | (with_reducible refine Below.setCell ?_ ?_ _; rotate_left; (focus first | (simp; done) | (simp; omega) | omega)) | (with_reducible refine Below.alloc ?_ ?_ _; rotate_left; (focus first | (simp; done) | (simp; omega) | omega)) | with_reducible refine Below.drew ?_))) hy12)⟩
                              case measure => simp [intOf]; omega
                      · have hltz : ¬ (z : Int) < 4 := by omega
                        go_wp2
                        go_ret
                        exact ⟨rfl, bwz⟩

end Lk
end Go.Proofs.YtdcdoeolaongkaaGreatDoor
