import Derived.Test.YtblkgicbimflhaaGreatKBJ
import Derived.RangeFuncNested
import Derived.RangeFuncBound
import Derived.RangeFuncCalls
import Derived.RangeFuncLeaves
import Derived.Shelf.Abstract
import Derived.Shelf.RegionOpen
import Derived.WalkKit
import Derived.OwnWalkIn
import Derived.TacticsInMore
import Derived.LoopNIn
import Derived.LoopIn
namespace Go.Proofs.YtblkgicbimflhaaGreat
open Go.ChangeShapes Go.WideShapes Go.ChangeAt Go.RowKit
set_option linter.unusedVariables false
set_option linter.unusedSimpArgs false
set_option maxRecDepth 100000
open List (setIfInBounds_toArray set_cons_zero set_cons_succ)
open Go.Shelf
attribute [local go_sem] Oper.semAt_some
def backL {α : Type} [Inhabited α] (zs : List α) (k : Nat) : List (Nat × α) := (List.range k).map (fun j => (zs.length - 1 - j, zs[zs.length - 1 - j]?.getD default))
theorem backL_succ {α : Type} [Inhabited α] (zs : List α) (k : Nat) : backL zs (k + 1) = backL zs k ++ [(zs.length - 1 - k, zs[zs.length - 1 - k]?.getD default)] := by simp [backL, List.range_succ]
theorem backL_len {α : Type} [Inhabited α] (zs : List α) (k : Nat) : (backL zs k).length = k := by simp [backL]
def encS (x : Nat × (ByteArray × Nat)) : Array Value := #[.int .i64 (x.1 : Int), .agg #[.string x.2.1, .map (some x.2.2)]]
set_option maxHeartbeats 2000000 in
theorem back1_in (F : Fence) (n : Nat) (h6 : F.fn 106) (hro : F.round = none) (hn : 1 ≤ n) (l Bs n₀ : Nat) (a : Option Addr) (cap : Nat) (zs : List (ByteArray × Nat)) (h8 : zs.length ≤ 8) (hBn : Bs < n₀) (J Jx : List (Nat × (ByteArray × Nat)) → World → Prop)
 (hY : ∀ pre x W, J pre W → pre.length < zs.length → YieldAt F (n - 1) Tryz.prog l (encS x) W fun e W' =>
  (e = .returned (.bool true) ∧ J (pre ++ [x]) W' ∧ Below n₀ W W') ∨ (e = .returned (.bool false) ∧ Jx (pre ++ [x]) W'))
 (W : World) (hBs : W.cell? ⟨Bs, 0, none⟩ = some (.slice a zs.length cap)) (hc : 0 < zs.length → ∃ b, a = some ⟨b, 0, none⟩ ∧ b < n₀ ∧ ∀ j, j < zs.length → W.cell? ⟨b, j * 2, none⟩ = some (.string (zs[j]?.getD default).1) ∧ W.cell? ⟨b, j * 2 + 1, none⟩ = some (.map (some (zs[j]?.getD default).2))) (h0 : J [] W) :
 CallsIn F n Tryz.prog 106 #[.func (.yield l) #[] #[], .pointer (some ⟨Bs, 0, none⟩)] W fun e W' => (∃ v, e = .returned v) ∧
  ((∃ ys, ys = backL zs zs.length ∧ J ys W') ∨ (∃ pre, (∃ k, 0 < k ∧ k ≤ zs.length ∧ pre = backL zs k) ∧ Jx pre W')) := by
 refine callsIn_of_wp Tryz.func106 rfl h6 ?_ hro
 simp only [Tryz.ntmps106, List.size_toArray, List.length_cons, List.length_nil, Nat.reduceAdd, Nat.reduceSub, Array.replicate_succ, Array.replicate_zero, List.push_toArray, List.append_toArray, List.nil_append, List.cons_append]
 have hw0 : IntKind.i64.wrap ((zs.length : Int) - 1) = (zs.length : Int) - 1 := by simp only [IntKind.wrap_i64, wrap64]; omega
 gi_wp2
 gi_loopw [3] (fun i wr => ∃ k : Nat, k ≤ zs.length ∧ i = .int .i64 ((zs.length : Int) - 1 - k) ∧ J (backL zs k) wr ∧ Below n₀ W wr)
  (fun i _ => (intOf i + 1).toNat)
 case atStart => exact ⟨0, Nat.zero_le _, by simp, h0, Below.refl _ _⟩
 case round =>
  obtain ⟨k, hk, rfl, hJs, hnx⟩ := hrel
  by_cases hlt : k < zs.length
  ·obtain ⟨b, rfl, hb, hcs⟩ := hc (by omega)
   obtain ⟨m, hm⟩ : ∃ m : Nat, (zs.length : Int) - 1 - k = m := ⟨zs.length - 1 - k, by omega⟩
   have hmn : zs.length - 1 - k = m := by omega
   obtain ⟨c0, c1⟩ := hcs m (by omega)
   have HBS := hid (backL_succ zs k)
   rw [hmn] at HBS
   obtain ⟨fn, tmps, assign, body, hy, hR⟩ := hY _ (m, zs[m]?.getD default) wr hJs (by rw [backL_len]; exact hlt)
   unfold encS at hy
   dsimp only at hy
   have d0 : wr.cell? ⟨b, m * 2, none⟩ = some (.string (zs[m]?.getD default).1) := (hnx.cell (p := ⟨b, m * 2, none⟩) hb).trans c0
   have d1 : wr.cell? ⟨b, m * 2 + 1, none⟩ = some (.map (some (zs[m]?.getD default).2)) := (hnx.cell (p := ⟨b, m * 2 + 1, none⟩) hb).trans c1
   have d2 : wr.cell? ⟨Bs, 0, none⟩ = some (.slice (some ⟨b, 0, none⟩) zs.length cap) := (hnx.cell (p := ⟨Bs, 0, none⟩) hBn).trans hBs
   have hmi : (m : Int) < zs.length := by omega
   have hw1 : IntKind.i64.wrap ((m : Int) - 1) = (m : Int) - 1 := by simp only [IntKind.wrap_i64, wrap64]; omega
   have HM := hid hm
   rw [hm]
   clear hm hmn hcs c0 c1 hc
   generalize hzz : zs[m]?.getD default = zz at *
   obtain ⟨z1, z2⟩ := zz
   dsimp only at hy d0 d1
   gi_wp2
   refine hR.mono ?_
   rintro e W3 (⟨rfl, hJ3, hk3⟩ | ⟨rfl, hJx3⟩)
   ·rw [← HBS.out] at hJ3
    clear hy hR
    gi_wp2
    go_roundw
    case rel => exact ⟨k + 1, by omega, by have := HM.out; congr 1; omega, hJ3, hnx.trans hk3⟩
    case measure => simp [intOf]
   ·rw [← HBS.out] at hJx3
    clear hy hR
    gi_wp2
    refine bodyPost_ret (results_none rfl _ _ _) rfl ?_
    exact ⟨⟨_, rfl⟩, .inr ⟨_, ⟨k + 1, by omega, by omega, rfl⟩, hJx3⟩⟩
  ·obtain rfl : k = zs.length := by omega
   have hneg : ¬ (0 : Int) ≤ (zs.length : Int) - 1 - zs.length := by omega
   gi_wp2
   go_end0
   exact ⟨⟨_, rfl⟩, .inl hJs⟩
set_option maxHeartbeats 1000000 in
theorem backward_in (F : Fence) (n : Nat) (h5 : F.fn 93) (hro : F.round = none) (a : Option Addr) (len cap : Nat) (w : World) :
 CallsIn F n Tryz.prog 93 #[.slice a len cap] w fun e w' => e = .returned (.func (.func 106) #[] #[.pointer (some ⟨w.heap.size, 0, none⟩)]) ∧ w' = w.alloc (.cells #[.slice a len cap] 117) := by
 refine callsIn_of_wp Tryz.func93 rfl h5 ?_ hro
 simp only [Tryz.ntmps93, List.size_toArray, List.length_cons, List.length_nil, Nat.reduceAdd, Nat.reduceSub, Array.replicate_succ, Array.replicate_zero, List.push_toArray, List.append_toArray, List.nil_append, List.cons_append]
 gi_wp2
 go_ret
 exact ⟨rfl, rfl⟩
def SvAt (n₀ : Nat) (W : World) (a : Option Addr) (zs : List (ByteArray × Nat)) : Prop := 0 < zs.length → ∃ b, a = some ⟨b, 0, none⟩ ∧ b < n₀ ∧ ∀ j, j < zs.length → W.cell? ⟨b, j * 2, none⟩ = some (.string (zs[j]?.getD default).1) ∧ W.cell? ⟨b, j * 2 + 1, none⟩ = some (.map (some (zs[j]?.getD default).2))
theorem SvAt.below {n₀ : Nat} {A B : World} (h : Below n₀ A B) {a : Option Addr} {zs : List (ByteArray × Nat)} (hs : SvAt n₀ A a zs) : SvAt n₀ B a zs := fun hp => by
 obtain ⟨b, e, hb, hc⟩ := hs hp
 exact ⟨b, e, hb, fun j hj => ⟨(h.cell (p := ⟨b, j * 2, none⟩) hb).trans (hc j hj).1, (h.cell (p := ⟨b, j * 2 + 1, none⟩) hb).trans (hc j hj).2⟩⟩
theorem back_stops (F : Fence) (n : Nat) (h6 : F.fn 106) (hro : F.round = none) (hn : 1 ≤ n) (Bs n₀ : Nat) (a : Option Addr) (cap : Nat) (zs : List (ByteArray × Nat)) (h8 : zs.length ≤ 8) (w : World) (hBs : Bs < n₀) (hn₀ : n₀ ≤ w.heap.size) (hc : w.cell? ⟨Bs, 0, none⟩ = some (.slice a zs.length cap)) (hI : SvAt n₀ w a zs) :
 SeqStopsK F n Tryz.prog 106 #[.pointer (some ⟨Bs, 0, none⟩)] encS (Below n₀) (fun ys => ys = backL zs zs.length) (fun pre => ∃ k, 0 < k ∧ k ≤ zs.length ∧ pre = backL zs k) zs.length w := fun l J Jx W hW _ _ hY h0 => by
 have hc' := ((hW.mono hn₀).cell (p := ⟨Bs, 0, none⟩) hBs).trans hc
 exact back1_in F n h6 hro hn l Bs n₀ a cap zs h8 hBs J Jx hY W hc' (hI.below (hW.mono hn₀)) h0
end Go.Proofs.YtblkgicbimflhaaGreat
namespace Go.Proofs.YtblkgicbimflhaaGreat
open Go.ChangeShapes Go.WideShapes Go.ChangeAt Go.RowKit
set_option linter.unusedVariables false
set_option linter.unusedSimpArgs false
set_option maxRecDepth 100000
open List (setIfInBounds_toArray set_cons_zero set_cons_succ)
open Go.Shelf
attribute [local go_sem] Oper.semAt_some
theorem Blk.owned {W W' : World} {b : Nat} {cs : List Value} {row : Option Nat} (h : Blk W b cs) (hg : W.grownBy W' row) (hr : ∀ r, row = some r → ∃ o : Obj, W.heap[r]? = some o ∧ o.isCells = false) : Blk W' b cs := fun j hj => by
 have h1 := (h j hj).1
 rw [List.getElem?_eq_getElem hj] at h1 ⊢
 exact ⟨cell_kept h1 hg hr, (frozen_kept h1 hg hr).trans (h j hj).2⟩
def zsOf (ss : List Sav) (sm : List (Nat × List (Spt × Vsn))) : List (ByteArray × Nat) := List.zipWith (fun s p => (s.nm, p.1)) ss sm
theorem zsOf_len {ss : List Sav} {sm : List (Nat × List (Spt × Vsn))} (h : sm.length = ss.length) : (zsOf ss sm).length = ss.length := by unfold zsOf; simp [h]
theorem zsOf_at {ss : List Sav} {sm : List (Nat × List (Spt × Vsn))} {j : Nat} (h1 : j < ss.length) (h2 : j < sm.length) : (zsOf ss sm)[j]?.getD default = (ss[j].nm, sm[j].1) := by
 unfold zsOf
 rw [List.getElem?_zipWith, List.getElem?_eq_getElem h1, List.getElem?_eq_getElem h2]
 rfl
theorem TrM.svAt {B : Nat} {w : World} {t : TG} {x : Txn} (h : TrM B w t x) {a : Option Addr} {c : Nat} (hsv : t.sv = .slice a x.sv.length c) : SvAt w.heap.size w a (zsOf x.sv t.sm) := fun hp => by
 rw [zsOf_len h.sl] at hp
 obtain ⟨b, c', e, _, _, hb⟩ := own_shape h.sr hp
 rw [e] at hsv
 injection hsv with e1 _ e3
 refine ⟨b, e1.symm, hb, fun j hj => ?_⟩
 rw [zsOf_len h.sl] at hj
 have h2 : j < t.sm.length := by rw [h.sl]; exact hj
 obtain ⟨k1, k2⟩ := svC_at x.sv (t.sm.map Prod.fst) j hj (by rw [List.length_map]; exact h2)
 rw [List.getElem_map] at k2
 rw [zsOf_at hj h2]
 exact ⟨own_cells h.sr e k1, own_cells h.sr e k2⟩
def newAx (w : World) (g : Nat) (sv : Value) (nm : ByteArray) (x : Nat × (ByteArray × Nat)) (a' : Act) (W : World) : Prop := ∃ Bx, w.heap.size + 1 + 1 < Bx ∧ Bx < W.heap.size ∧ Blk W Bx [.string x.2.1, .map (some x.2.2)] ∧ a' = { tmps := #[.pointer (some ⟨g, 0, none⟩), .string nm, undef, .pointer (some ⟨w.heap.size, 0, none⟩), .pointer (some ⟨w.heap.size + 1, 0, none⟩), .int .i64 (x.1 : Int), .pointer (some ⟨Bx, 0, none⟩), .pointer (some ⟨g, 0, none⟩), .pointer (some ⟨g, 0, none⟩), .pointer (some ⟨g, 35, none⟩), sv, .func (.func 106) #[] #[.pointer (some ⟨w.heap.size + 1 + 1, 0, none⟩)], .int .i64 (x.1 : Int), .agg #[.string x.2.1, .map (some x.2.2)], undef, undef, undef, undef, undef], defers := [] }
theorem bat_t {x y : ByteArray} (h : (x.toList == y.toList) = true) : x = y := by
 rw [Lib.toList_data, Lib.toList_data, beq_iff_eq] at h
 exact ba_ext h
theorem bat_f {x y : ByteArray} (h : (x.toList == y.toList) = false) : x ≠ y := fun e => by rw [e] at h; simp at h
theorem saved_none {ss : List Sav} {sm : List (Nat × List (Spt × Vsn))} {nm : ByteArray} (hl : sm.length = ss.length) (h : ∀ y ∈ backL (zsOf ss sm) (zsOf ss sm).length, y.2.1 ≠ nm) : savedF ss nm = none := lastK_none (fun s hs => by
 obtain ⟨j, hj, rfl⟩ := List.getElem_of_mem hs
 have hz := zsOf_len hl
 have hm : (j, (zsOf ss sm)[j]?.getD default) ∈ backL (zsOf ss sm) (zsOf ss sm).length := by
  unfold backL
  refine List.mem_map.2 ⟨(zsOf ss sm).length - 1 - j, List.mem_range.2 (by omega), ?_⟩
  rw [show (zsOf ss sm).length - 1 - ((zsOf ss sm).length - 1 - j) = j by omega]
 have h2 := h _ hm
 rw [zsOf_at hj (by omega)] at h2
 exact decide_eq_false h2)
theorem saved_some {ss : List Sav} {sm : List (Nat × List (Spt × Vsn))} {nm : ByteArray} (hl : sm.length = ss.length) {k : Nat} (hk0 : 0 < k) (hk : k ≤ (zsOf ss sm).length) {p : List (Nat × (ByteArray × Nat))} {y : Nat × (ByteArray × Nat)} (e : backL (zsOf ss sm) k = p ++ [y]) (hy : y.2.1 = nm) (hp : ∀ z ∈ p, z.2.1 ≠ nm) : savedF ss nm = some y.1 := by
 have hz := zsOf_len hl
 obtain ⟨m, rfl⟩ : ∃ m, k = m + 1 := ⟨k - 1, by omega⟩
 rw [backL_succ] at e
 obtain ⟨e1, e2⟩ := List.append_inj' e rfl
 injection e2 with e2 _
 have hj : (zsOf ss sm).length - 1 - m < ss.length := by omega
 rw [← e2] at hy ⊢
 simp only at hy ⊢
 rw [zsOf_at hj (by omega)] at hy
 refine lastK_hit hj (decide_eq_true hy) (fun s hs => ?_)
 obtain ⟨i, hi, rfl⟩ := List.getElem_of_mem hs
 rw [List.length_drop] at hi
 rw [List.getElem_drop]
 refine decide_eq_false (fun z => ?_)
 have hq : (zsOf ss sm).length - 1 - m + 1 + i < ss.length := by omega
 have hm : ((zsOf ss sm).length - 1 - m + 1 + i, (zsOf ss sm)[(zsOf ss sm).length - 1 - m + 1 + i]?.getD default) ∈ p := by
  rw [← e1]
  unfold backL
  refine List.mem_map.2 ⟨m - 1 - i, List.mem_range.2 (by omega), ?_⟩
  rw [show (zsOf ss sm).length - 1 - (m - 1 - i) = (zsOf ss sm).length - 1 - m + 1 + i by omega]
 have := hp _ hm
 rw [zsOf_at hq (by omega)] at this
 exact this z
set_option maxHeartbeats 4000000 in
theorem newest_any (B : Nat) (w : World) (t : TG) (x : Txn) (h : TrM B w t x) (nm : ByteArray) :
 Calls Tryz.prog 74 #[.pointer (some ⟨t.g, 0, none⟩), .string nm] w fun e w' => e = .returned (.int .i64 (savedI (savedF x.sv nm))) ∧ Below w.heap.size w w' := by
 have c35 := h.c35.1
 obtain ⟨sa, sc, hsv⟩ := h.svf
 rw [hsv] at c35
 have hgl := h.gl
 have hl8 := h.s8
 have hzl := zsOf_len h.sl
 have HSV := hid (h.svAt hsv)
 obtain ⟨zs, hzs⟩ : ∃ zs, zs = zsOf x.sv t.sm := ⟨_, rfl⟩
 rw [← hzs] at hzl HSV
 rw [← hzl] at c35 hl8
 have HZS := hid hzs
 have HZL := hid hzl
 clear hzs hzl
 refine (callsIn_wide (n := 3)).1 ?_
 refine callsIn_of_wp_marks Tryz.func74 rfl trivial ?_ rfl
 simp only [Tryz.ntmps74, List.size_toArray, List.length_cons, List.length_nil, Nat.reduceAdd, Nat.reduceSub, Array.replicate_succ, Array.replicate_zero, List.push_toArray, List.append_toArray, List.nil_append, List.cons_append]
 gi_wp2_with (refine ⟨trivial, ?_⟩; gi_at_call 93; refine (backward_in Fence.wide _ trivial rfl _ _ _ _).mono ?_; rintro e w' ⟨rfl, rfl⟩)
 obtain ⟨W0, hW0⟩ : ∃ W0, ((w.alloc (.cells #[.string nm] 9)).alloc (.cells #[.int .i64 0] 3)).alloc (.cells #[.slice sa zs.length sc] 117) = W0 := ⟨_, rfl⟩
 have hsz : W0.heap.size = w.heap.size + 1 + 1 + 1 := by rw [← hW0]; simp
 have hB0 : Below w.heap.size w W0 := by rw [← hW0]; exact (((Below.refl _ w).alloc (Nat.le_refl _) _).alloc (by simp) _).alloc (by simp; omega) _
 have KA : Blk W0 w.heap.size [.string nm] := by rw [← hW0]; exact blkA w [.string nm] [.int .i64 0] [.slice sa zs.length sc] _ _ _
 have KB : Blk W0 (w.heap.size + 1) [.int .i64 0] := by rw [← hW0]; exact blkB w [.string nm] [.int .i64 0] [.slice sa zs.length sc] _ _ _
 have KC : Blk W0 (w.heap.size + 1 + 1) [.slice sa zs.length sc] := by rw [← hW0]; exact blkC w [.string nm] [.int .i64 0] [.slice sa zs.length sc] _ _ _
 have c0 : W0.cell? ⟨w.heap.size, 0, none⟩ = some (.string nm) := (KA 0 (by simp)).1
 have c1 : W0.cell? ⟨w.heap.size + 1, 0, none⟩ = some (.int .i64 0) ∧ W0.frozen? ⟨w.heap.size + 1, 0, none⟩ = false := KB 0 (by simp)
 have c2 : W0.cell? ⟨w.heap.size + 1 + 1, 0, none⟩ = some (.slice sa zs.length sc) := (KC 0 (by simp)).1
 clear KA KB KC
 rw [hW0]
 clear hW0
 have HT := hid h
 clear h c35 hsv
 refine wpIn_rangeFunc_ownH rfl (by omega) (gf := 106) (lb := #[.pointer (some ⟨w.heap.size + 1 + 1, 0, none⟩)]) rfl trivial (enters_of Tryz.func106 (by kernel_rfl) rfl)
  (back_stops Fence.wide _ trivial rfl (by omega) (w.heap.size + 1 + 1) W0.heap.size sa sc zs hl8 W0 (by omega) (Nat.le_refl _) c2 (fun hp => by obtain ⟨b, e, hb, hc⟩ := HSV.out.below hB0 hp; exact ⟨b, e, by omega, hc⟩)) belowK_t (belowK_b (Nat.le_refl _)) (Below.refl _ _) (fun _ => rfl)
  (fun pre W => (w.heap.size + 1 + 1 < W.heap.size ∧ (∀ y ∈ pre, y.2.1 ≠ nm) ∧ W.cell? ⟨w.heap.size, 0, none⟩ = some (.string nm) ∧ W.cell? ⟨w.heap.size + 1, 0, none⟩ = some (.int .i64 0) ∧ W.frozen? ⟨w.heap.size + 1, 0, none⟩ = false) ∧ Below w.heap.size w W)
  (fun c pre W => (c = .ret ∧ ∃ p y, pre = p ++ [y] ∧ y.2.1 = nm ∧ (∀ z ∈ p, z.2.1 ≠ nm) ∧ W.cell? ⟨w.heap.size + 1, 0, none⟩ = some (.int .i64 (y.1 : Int))) ∧ Below w.heap.size w W)
  (OwnFrom.and (Own.from (fun s A B row hs hg hr => ⟨Nat.lt_of_lt_of_le hs.1 hg.size, hs.2.1, cell_kept hs.2.2.1 hg hr, cell_kept hs.2.2.2.1 hg hr, (frozen_kept hs.2.2.2.1 hg hr).trans hs.2.2.2.2⟩) _) (ownFrom_below (Nat.le_refl _) (by omega)))
  (fun c => OwnFrom.and (Own.from (fun s A B row hs hg hr => by obtain ⟨e, p, y, k1, k2, k3, k4⟩ := hs; exact ⟨e, p, y, k1, k2, k3, cell_kept k4 hg hr⟩) _) (ownFrom_below (Nat.le_refl _) (by omega)))
  ⟨⟨by omega, by simp, c0, c1.1, c1.2⟩, hB0⟩
  (newAx w t.g (.slice sa zs.length sc) nm)
  (fun y a' => fun s A B row hs hg hr => by
   obtain ⟨Bx, k1, k2, k3, k4⟩ := hs
   exact ⟨Bx, k1, Nat.lt_of_lt_of_le k2 hg.size, k3.owned hg (fun r e => (hr r e).2), k4⟩) ?assign ?body ?done ?stop
 case assign =>
  rintro l pre y W K ⟨⟨k1, k2, k3, k4, k5⟩, k6⟩ hK
  have ba := below_alloc W (.cells #[.string y.2.1, .map (some y.2.2)] 169)
  have hsW := k6.size
  have q1 := (ba.cell (p := ⟨w.heap.size, 0, none⟩) (by show w.heap.size < _; omega)).trans k3
  have q2 := (ba.cell (p := ⟨w.heap.size + 1, 0, none⟩) (by show w.heap.size + 1 < _; omega)).trans k4
  have q3 := (ba.frozen (p := ⟨w.heap.size + 1, 0, none⟩) (by show w.heap.size + 1 < _; omega)).trans k5
  have q4 := k6.alloc hsW (.cells #[.string y.2.1, .map (some y.2.2)] 169)
  have kn := blk_new W [.string y.2.1, .map (some y.2.2)] 169
  have HH := hid (hK { tmps := #[.pointer (some ⟨t.g, 0, none⟩), .string nm, undef, .pointer (some ⟨w.heap.size, 0, none⟩), .pointer (some ⟨w.heap.size + 1, 0, none⟩), .int .i64 (y.1 : Int), .pointer (some ⟨W.heap.size, 0, none⟩), .pointer (some ⟨t.g, 0, none⟩), .pointer (some ⟨t.g, 0, none⟩), .pointer (some ⟨t.g, 35, none⟩), .slice sa zs.length sc, .func (.func 106) #[] #[.pointer (some ⟨w.heap.size + 1 + 1, 0, none⟩)], .int .i64 (y.1 : Int), .agg #[.string y.2.1, .map (some y.2.2)], undef, undef, undef, undef, undef], defers := [] } (W.alloc (.cells #[.string y.2.1, .map (some y.2.2)] 169)) ((KeepsOthers.alloc _ _).from _) ((Below.refl W0.heap.size W).alloc (by omega) _) ⟨⟨by simp; omega, k2, q1, q2, q3⟩, q4⟩ ⟨W.heap.size, k1, by simp, kn, rfl⟩)
  clear hK k1 k2 k3 k4 k5 k6 q1 q2 q3 q4 kn ba
  simp only [encS]
  gi_wp2
  exact HH.out
 case body =>
  rintro l pre y a' W hl ⟨r, hr⟩ ⟨⟨k1, k2, k3, k4, k5⟩, k6⟩ ⟨Bx, m1, m2, m3, rfl⟩ hlt
  have n0 : W.cell? ⟨Bx, 0, none⟩ = some (.string y.2.1) := (m3 0 (by simp)).1
  clear m3
  gi_wp2
  ·rename_i hx
   exact ⟨(KeepsOthers.setCell _ _ _).from _, ⟨rfl, pre, y, rfl, bat_t hx, k2, World.cell?_setCell_same' _ _ _ (by rw [k4]; rfl)⟩, k6.setCell (p := ⟨w.heap.size + 1, 0, none⟩) (by simp) _⟩
  ·rename_i hx
   exact ⟨(KeepsOthers.refl _).from _, Below.refl _ _, ⟨k1, fun z hz => (List.mem_append.1 hz).elim (k2 z) (fun e => by simp at e; subst e; exact bat_f hx), k3, k4, k5⟩, k6⟩
 case done =>
  rintro D ys W hD rfl ⟨⟨k1, k2, k3, k4, k5⟩, k6⟩ hK
  have HV : Hid (savedI (savedF x.sv nm) = -1) := hid (by rw [HZS.out] at k2; rw [saved_none HT.out.sl k2]; rfl)
  gi_wp2
  have hK' := (KeepsOthers.setCell W ⟨w.heap.size + 1, 0, none⟩ (.int .i64 (-1))).same D _ hK rfl
  refine ⟨by simp, .inl ⟨_, _, rfl, run_takeDeferred hK', ?_⟩⟩
  have hc5 := cell_kept (World.cell?_setCell_same' W ⟨w.heap.size + 1, 0, none⟩ (.int .i64 (-1)) (by rw [k4]; rfl)) (grownBy_putObj' _ D (.deferred none)) (fun r e => by cases e; exact ⟨_, hK', rfl⟩)
  refine ⟨.int .i64 (-1), ?_, by rw [HV.out], (k6.setCell (p := ⟨w.heap.size + 1, 0, none⟩) (by simp) _).trans (belowK_b (w := w) (Nat.le_refl _) _ D _ _ (by omega) hK' rfl rfl)⟩
  simp [results, Tryz.results74, go_sem, hc5]
 case stop =>
  rintro D c pre W hD ⟨k, hk0, hk, rfl⟩ ⟨⟨rfl, p, y, e1, e2, e3, e4⟩, k6⟩ hK
  have HV : Hid (savedI (savedF x.sv nm) = (y.1 : Int)) := hid (by rw [HZS.out] at hk e1; rw [saved_some HT.out.sl hk0 hk e1 e2 e3]; rfl)
  gi_wp2
  refine ⟨by simp, .inl ⟨_, _, rfl, run_takeDeferred hK, ?_⟩⟩
  have hc5 := cell_kept e4 (grownBy_putObj' _ D (.deferred none)) (fun r e => by cases e; exact ⟨_, hK, rfl⟩)
  refine ⟨.int .i64 (y.1 : Int), ?_, by rw [HV.out], k6.trans (belowK_b (w := w) (Nat.le_refl _) W D _ _ (by omega) hK rfl rfl)⟩
  simp [results, Tryz.results74, go_sem, hc5]
end Go.Proofs.YtblkgicbimflhaaGreat
namespace Go.Proofs.YtblkgicbimflhaaGreat
open Go.ChangeShapes Go.WideShapes Go.ChangeAt Go.RowKit
set_option linter.unusedVariables false
set_option linter.unusedSimpArgs false
set_option maxRecDepth 100000
open List (setIfInBounds_toArray set_cons_zero set_cons_succ)
open Go.ChangeMaps (setBlock)
theorem TrP.of_below {B : Nat} {w w' : World} {t : TG} {x : Txn} (h : TrM B w t x) (hb : Below w.heap.size w w') : TrP B w t x w' := ⟨t, h.below hb, rfl, fun b hb => .inl hb, Fr.of_below _ hb⟩
theorem TrM.remap {B : Nat} {w w' : World} {t : TG} {x : Txn} (h : TrM B w t x) (hf : Fr (fun b => b = t.mb) w w') {M' : List (Spt × Vsn)} {own' : List Cel} (hm : MP w' t.mb M') (hr : RelM M' own') (hi : InT M') : TrM B w' ⟨t.g, t.mb, M', t.sv, t.sm⟩ { x with own := own' } :=
 ⟨h.bk.fr hf h.gl (fun e => h.g_mb e), Nat.lt_of_lt_of_le h.gl hf.size, h.rl, hm, hr, hi, h.sl, h.s8, own_fr h.sr hf (fun g hg e => by have e2 : g = t.mb := e; subst e2; exact h.sv_mb hg), fun j hj hj' => ⟨(h.ss j hj hj').1.fr hf (fun e => by
  have e2 : t.sm[j].1 = t.mb := e
  exact (List.nodup_cons.1 h.nd).1 (by rw [← e2]; exact List.mem_map_of_mem (List.getElem_mem hj))), (h.ss j hj hj').2⟩, h.nd, h.sg, h.ge⟩
def RelP (B : Nat) (w : World) (t : TG) (x : Txn) (f : Nat → Txn) (o : Option Nat) (e : Ending) (w' : World) : Prop := match o with
 | none => e = .returned (.int .i64 23) ∧ TrP B w t x w'
 | some k => e = .returned (.int .i64 0) ∧ TrP B w t (f k) w'
theorem cut_foot {t : TG} {n : Nat} {sv' : Value} {M' : List (Spt × Vsn)} (ho : sv'.ownBlock = t.sv.ownBlock) {b : Nat} (hb2 : trF ⟨t.g, t.mb, M', sv', t.sm.take n⟩ b) : trF t b := by
 rcases hb2 with z | z | z | z
 ·exact .inl z
 ·exact .inr (.inl z)
 ·obtain ⟨p, hp, e⟩ := List.mem_map.1 z
  exact .inr (.inr (.inl (by rw [← e]; exact List.mem_map_of_mem (List.mem_of_mem_take hp))))
 ·exact .inr (.inr (.inr (by rw [← ho]; exact z)))
theorem cut_fr {w w1 w2 : World} {t : TG} {n : Nat} (hb : Below w.heap.size w w1) (hf : Fr (fun b => b = t.g ∨ b ∈ (t.sm.drop n).map Prod.fst) w1 w2) : Fr (trF t) w w2 := (Fr.of_below _ hb).trans (hf.mono (fun b z => by
 rcases z with z | z
 ·exact .inl z
 ·obtain ⟨p, hp, e⟩ := List.mem_map.1 z
  exact .inr (.inr (.inl (by rw [← e]; exact List.mem_map_of_mem (List.mem_of_mem_drop hp))))))
theorem cut_trp {B : Nat} {w w1 w2 : World} {t : TG} {x' : Txn} {n : Nat} {sv' : Value} (hb : Below w.heap.size w w1) (hT : TrM B w2 ⟨t.g, t.mb, t.M, sv', t.sm.take n⟩ x') (ho : sv'.ownBlock = t.sv.ownBlock) (hf : Fr (fun b => b = t.g ∨ b ∈ (t.sm.drop n).map Prod.fst) w1 w2) : TrP B w t x' w2 :=
 ⟨_, hT, rfl, fun b hb2 => .inl (cut_foot ho hb2), cut_fr hb hf⟩
set_option maxHeartbeats 4000000 in
theorem release_any (B : Nat) (w : World) (t : TG) (x : Txn) (h : TrM B w t x) (nm : ByteArray) :
 Calls Tryz.prog 51 #[.pointer (some ⟨t.g, 0, none⟩), .string nm] w fun e w' => RelP B w t x (fun k => { x with sv := x.sv.take k }) (savedF x.sv nm) e w' := by
 have hnw := newest_any B w t x h nm
 cases hq : savedF x.sv nm with
 | none =>
   rw [hq] at hnw
   have e1 : savedI none = -1 := rfl
   rw [e1] at hnw
   have HT := hid h
   clear e1 hq h
   go_enter Tryz.func51, Tryz.ntmps51
   go_wp2_with (go_at_call 74; fail)
   refine hnw.mono ?_
   rintro e w1 ⟨rfl, hb⟩
   have HF : Hid (RelP B w t x (fun k => { x with sv := x.sv.take k }) none (.returned (.int .i64 23)) w1) := ⟨rfl, TrP.of_below HT.out hb⟩
   go_wp2
   refine bodyPost_ret (v := .int .i64 23) (by simp [results, Tryz.results51, go_sem]) rfl ?_
   exact HF.out
 | some k =>
   have hkl := lastK_lt hq
   rw [hq] at hnw
   have e1 : savedI (some k) = (k : Int) := rfl
   rw [e1] at hnw
   have hk0 : ¬ (k : Int) < 0 := by omega
   have HT := hid h
   clear e1 hq h
   go_enter Tryz.func51, Tryz.ntmps51
   go_wp2_with (go_at_call 74; fail)
   refine hnw.mono ?_
   rintro e w1 ⟨rfl, hb⟩
   have hgu := giveUpSaves_any B w1 t x (HT.out.below hb) k (by omega)
   go_wp2_with (go_at_call 75; fail)
   refine hgu.mono ?_
   rintro e w2 ⟨⟨r, rfl⟩, ⟨sv', hT, ho⟩, hf⟩
   have HF : Hid (RelP B w t x (fun k => { x with sv := x.sv.take k }) (some k) (.returned (.int .i64 0)) w2) := ⟨rfl, cut_trp hb hT ho hf⟩
   clear hgu hT hf ho
   go_wp2
   refine bodyPost_ret (v := .int .i64 0) (by simp [results, Tryz.results51, go_sem]) rfl ?_
   exact HF.out
theorem copied {M' N : List (Spt × Vsn)} {cs : List Cel} (hN : RelM N cs) (hI : InT N) (hn : (M'.map Prod.fst).Nodup) (h : ∀ k, mget M' k = (mget N k).or (mget [] k)) : RelM M' cs ∧ InT M' := by
 have h2 : ∀ k, mget M' k = mget N k := fun k => by rw [h k]; cases mget N k <;> rfl
 refine ⟨fun a y => by rw [h2]; exact hN a y, fun m hm => ?_⟩
 have h3 := mget_mem hn hm
 rw [h2] at h3
 exact hI _ (mget_some h3)
set_option maxHeartbeats 4000000 in
theorem back_any (B : Nat) (w : World) (t : TG) (x : Txn) (h : TrM B w t x) (nm : ByteArray) :
 Calls Tryz.prog 50 #[.pointer (some ⟨t.g, 0, none⟩), .string nm] w fun e w' => RelP B w t x (fun k => { x with own := (x.sv.getD k sv0).cs, sv := x.sv.take (k + 1) }) (savedF x.sv nm) e w' := by
 have hnw := newest_any B w t x h nm
 cases hq : savedF x.sv nm with
 | none =>
   rw [hq] at hnw
   have e1 : savedI none = -1 := rfl
   rw [e1] at hnw
   have HT := hid h
   clear e1 hq h
   go_enter Tryz.func50, Tryz.ntmps50
   go_wp2_with (go_at_call 74; fail)
   refine hnw.mono ?_
   rintro e w1 ⟨rfl, hb⟩
   have HF : Hid (RelP B w t x (fun k => { x with own := (x.sv.getD k sv0).cs, sv := x.sv.take (k + 1) }) none (.returned (.int .i64 23)) w1) := ⟨rfl, TrP.of_below HT.out hb⟩
   go_wp2
   refine bodyPost_ret (v := .int .i64 23) (by simp [results, Tryz.results50, go_sem]) rfl ?_
   exact HF.out
 | some k =>
   have hkl := lastK_lt hq
   rw [hq] at hnw
   have e1 : savedI (some k) = (k : Int) := rfl
   rw [e1] at hnw
   have hk0 : ¬ (k : Int) < 0 := by omega
   have hk8 : k < 8 := by have := h.s8; omega
   have hw1 : IntKind.i64.wrap ((k : Int) + 1) = (k : Int) + 1 := by simp only [IntKind.wrap_i64, wrap64]; omega
   have HT := hid h
   clear e1 hq h
   go_enter Tryz.func50, Tryz.ntmps50
   go_wp2_with (go_at_call 74; fail)
   refine hnw.mono ?_
   rintro e w1 ⟨rfl, hb⟩
   have hgu := giveUpSaves_any B w1 t x (HT.out.below hb) (k + 1) (by omega)
   rw [show ((k + 1 : Nat) : Int) = (k : Int) + 1 by omega] at hgu
   go_wp2_with (go_at_call 75; fail)
   refine hgu.mono ?_
   rintro e w2 ⟨⟨r, rfl⟩, ⟨sv', hT, ho⟩, hf⟩
   have c34 := hT.c34
   have c35 := hT.c35.1
   simp only at c34 c35
   have hlk : (x.sv.take (k + 1)).length = k + 1 := by rw [List.length_take]; omega
   have hlm : (t.sm.take (k + 1)).length = k + 1 := by have := hT.sl; simp only at this; rw [this, hlk]
   have hks : k < t.sm.length := by rw [List.length_take] at hlm; omega
   obtain ⟨gs, cap, hsv, hcc, _, hgs⟩ := own_shape hT.sr (by simp only; omega)
   simp only at hsv
   rw [hlk] at hsv
   obtain ⟨k1, k2⟩ := svC_at (x.sv.take (k + 1)) ((t.sm.take (k + 1)).map Prod.fst) k (by omega) (by rw [List.length_map]; omega)
   simp only [List.getElem_map, List.getElem_take] at k1 k2
   have d1 : w2.cell? ⟨gs, k * 2 + 1, none⟩ = some (.map (some t.sm[k].1)) := own_cells hT.sr (by simp only; rw [hlk]; exact hsv) k2
   obtain ⟨q1, q2, q3⟩ := hT.ss k (by simp only; omega) (by simp only; omega)
   simp only [List.getElem_take] at q1 q2 q3
   have hgd : x.sv.getD k sv0 = x.sv[k] := by rw [List.getD_eq_getElem?_getD, List.getElem?_eq_getElem hkl]; rfl
   obtain ⟨pk, hpk⟩ : ∃ z, z = t.sm[k]'hks := ⟨_, rfl⟩
   have q2' : RelM pk.2 (x.sv.getD k sv0).cs := by rw [hgd, hpk]; exact q2
   have q3' : InT pk.2 := by rw [hpk]; exact q3
   have q1b : MP w2 pk.1 pk.2 := by rw [hpk]; exact q1
   have hne : t.mb ≠ pk.1 := fun e => (List.nodup_cons.1 HT.out.nd).1 (by rw [e, hpk]; exact List.mem_map_of_mem (List.getElem_mem hks))
   have d1b : w2.cell? ⟨gs, k * 2 + 1, none⟩ = some (.map (some pk.1)) := by rw [hpk]; exact d1
   clear q1 q2 q3 d1 hpk hgd
   obtain ⟨mk, Nk⟩ := pk
   simp only at q1b q2' q3' hne d1b
   have hgm : t.g ≠ t.mb := HT.out.g_mb
   have hgsm : gs ≠ t.mb := fun e => own_map hT.sr (g := gs) (by simp only; rw [hsv]; rfl) (by rw [e]; exact hT.mp)
   rw [hsv] at c35
   obtain ⟨o, hcl, hmp⟩ := run_clearM w2 t.mb 0 _ hT.mp
   have f3 := fr_setBlock w2 t.mb o
   have b34 := (World.cell?_of_block (a := ⟨t.g, 34, none⟩) (f3.block t.g hT.gl hgm)).trans c34
   have b35 := (World.cell?_of_block (a := ⟨t.g, 35, none⟩) (f3.block t.g hT.gl hgm)).trans c35
   have bd1 := (World.cell?_of_block (a := ⟨gs, k * 2 + 1, none⟩) (f3.block gs hgs hgsm)).trans d1b
   have q1' : MP (setBlock w2 t.mb o) mk Nk := q1b.fr f3 (fun (e : mk = t.mb) => hne e.symm)
   have HCP := hid (copy_any t.mb mk [] Nk (setBlock w2 t.mb o).drew hmp q1' hne)
   have HB := hid hb
   have HT2 := hid hT
   have HF2 := hid hf
   have HF3 := hid f3
   have HQ2 := hid q2'
   have HQ3 := hid q3'
   have HO := hid ho
   have hki : (k : Int) < k + 1 := by omega
   clear hgu hT hf f3 q1' q1b q2' q3' ho k1 k2 hmp hlk hlm d1b hsv hb hks
   go_wp2
   refine wp_region_till_drew (S := (fun W => W.cell? ⟨t.g, 34, none⟩ = some (.map (some t.mb)) ∧ W.cell? ⟨t.g, 35, none⟩ = some (.slice (some ⟨gs, 0, none⟩) (k + 1) cap) ∧ W.cell? ⟨gs, k * 2 + 1, none⟩ = some (.map (some mk)))) (late := []) (by kernel_rfl) ⟨b34, b35, bd1⟩ (fun hHeld => ?_)
   refine till_tk (i := 0) (v := ?_) rfl (Or.inl ⟨by rfl, ?_⟩) hHeld ?_
   rotate_left
   ·intro w
    go_simp
    try with_reducible rfl
   try simp only [Act.put, setIfInBounds_toArray, set_cons_zero, set_cons_succ]
   refine till_tk (i := 1) (v := ?_) rfl (Or.inl ⟨by rfl, ?_⟩) hHeld ?_
   rotate_left
   ·intro w
    go_simp
    try with_reducible rfl
   try simp only [Act.put, setIfInBounds_toArray, set_cons_zero, set_cons_succ]
   refine till_tk (i := 2) (v := ?_) rfl (Or.inl ⟨by rfl, ?_⟩) hHeld ?_
   rotate_left
   ·intro w
    go_simp
    try with_reducible rfl
   try simp only [Act.put, setIfInBounds_toArray, set_cons_zero, set_cons_succ]
   refine till_ld (i := 3) (v := ?_) rfl (Or.inl ⟨by rfl, ?_⟩) hHeld ?_
   rotate_left
   ·intro w hSw
    try dsimp only at hSw
    go_simp
    try with_reducible rfl
   try simp only [Act.put, setIfInBounds_toArray, set_cons_zero, set_cons_succ]
   refine till_tk (i := 4) (v := ?_) rfl (Or.inl ⟨by rfl, ?_⟩) hHeld ?_
   rotate_left
   ·intro w
    go_simp
    try with_reducible rfl
   try simp only [Act.put, setIfInBounds_toArray, set_cons_zero, set_cons_succ]
   refine till_tk (i := 5) (v := ?_) rfl (Or.inl ⟨by rfl, ?_⟩) hHeld ?_
   rotate_left
   ·intro w
    go_simp
    try with_reducible rfl
   try simp only [Act.put, setIfInBounds_toArray, set_cons_zero, set_cons_succ]
   refine till_tk (i := 6) (v := ?_) rfl (Or.inl ⟨by rfl, ?_⟩) hHeld ?_
   rotate_left
   ·intro w
    go_simp
    try with_reducible rfl
   try simp only [Act.put, setIfInBounds_toArray, set_cons_zero, set_cons_succ]
   refine till_ld (i := 7) (v := ?_) rfl (Or.inl ⟨by rfl, ?_⟩) hHeld ?_
   rotate_left
   ·intro w hSw
    try dsimp only at hSw
    go_simp
    try with_reducible rfl
   try simp only [Act.put, setIfInBounds_toArray, set_cons_zero, set_cons_succ]
   refine till_tk (i := 8) (v := ?_) rfl (Or.inl ⟨by rfl, ?_⟩) hHeld ?_
   rotate_left
   ·intro w
    go_simp
    try with_reducible rfl
   try simp only [Act.put, setIfInBounds_toArray, set_cons_zero, set_cons_succ]
   refine till_tk (i := 9) (v := ?_) rfl (Or.inl ⟨by rfl, ?_⟩) hHeld ?_
   rotate_left
   ·intro w
    go_simp
    try with_reducible rfl
   try simp only [Act.put, setIfInBounds_toArray, set_cons_zero, set_cons_succ]
   refine till_tk (i := 10) (v := ?_) rfl (Or.inl ⟨by rfl, ?_⟩) hHeld ?_
   rotate_left
   ·intro w
    go_simp
    try with_reducible rfl
   try simp only [Act.put, setIfInBounds_toArray, set_cons_zero, set_cons_succ]
   refine till_ld (i := 11) (v := ?_) rfl (Or.inl ⟨by rfl, ?_⟩) hHeld ?_
   rotate_left
   ·intro w hSw
    try dsimp only at hSw
    go_simp
    try with_reducible rfl
   try simp only [Act.put, setIfInBounds_toArray, set_cons_zero, set_cons_succ]
   refine till_ready (rs := [12]) (by kernel_rfl) (by simp) (TillAll.cons rfl (fun K hK => ?_) TillAll.nil)
   go_simp
   refine HCP.out.mono ?_
   rintro e w4 ⟨⟨r2, rfl⟩, ⟨M', hM', hmg⟩, hf4⟩
   have hf5 : Fr (fun b => b = t.mb) (setBlock w2 t.mb o) w4 := ⟨hf4.os, hf4.tape, hf4.output, hf4.size, hf4.block⟩
   have hz2 : t.g < (setBlock w2 t.mb o).heap.size := Nat.lt_of_lt_of_le HT2.out.gl HF3.out.size
   have hz3 : gs < (setBlock w2 t.mb o).heap.size := Nat.lt_of_lt_of_le hgs HF3.out.size
   have g34 := (World.cell?_of_block (a := ⟨t.g, 34, none⟩) (hf5.block t.g hz2 hgm)).trans b34
   have g35 := (World.cell?_of_block (a := ⟨t.g, 35, none⟩) (hf5.block t.g hz2 hgm)).trans b35
   have gd1 := (World.cell?_of_block (a := ⟨gs, k * 2 + 1, none⟩) (hf5.block gs hz3 hgsm)).trans bd1
   have HF : Hid (RelP B w t x (fun k => { x with own := (x.sv.getD k sv0).cs, sv := x.sv.take (k + 1) }) (some k) (.returned (.int .i64 0)) w4) := hid (by
    obtain ⟨c1, c2⟩ := copied HQ2.out HQ3.out hM'.nodup hmg
    have fx := HF3.out.trans hf5
    exact ⟨rfl, _, HT2.out.remap fx hM' c1 c2, rfl, fun b hb2 => .inl (cut_foot HO.out hb2), (cut_fr HB.out HF2.out).trans (fx.mono (fun b z => .inr (.inl z)))⟩)
   clear hM' hmg hf4 hf5 HCP HT2 HF2 HF3 HQ2 HQ3
   refine hK _ _ ⟨⟨g34, g35, gd1⟩, ?_⟩
   clear hK K
   try simp only [Act.put, setIfInBounds_toArray, set_cons_zero, set_cons_succ]
   refine till_done (by kernel_rfl) ?_ _
   go_wp2
   refine bodyPost_ret (v := .int .i64 0) (by simp [results, Tryz.results50, go_sem]) rfl ?_
   exact HF.out
end Go.Proofs.YtblkgicbimflhaaGreat
