import Derived.Test.YtbndliedcanmgaaRPG2
import Derived.Laws.OwnMore
namespace Go.Proofs.YtbndliedcanmgaaR
open Go.ChangeShapes Go.WideShapes Go.ChangeAt Go.RowKit
set_option linter.unusedVariables false
set_option linter.unusedSimpArgs false
set_option maxRecDepth 100000
theorem infoB : (Try.prog.info? 4).map (fun i => (i.zero, i.size, i.bytes)) = some (some (.bool false), 1, 1) := by kernel_rfl
theorem make_ints {ops : Array Oper} {rest : List Oper} {o : Oper} {a : Act} {Q : Exit → Act → World → Prop} (hgd : o.guard = none) (w : World) (l c : Operand) (ho : o.op = Op.makeSlice 30 l c) (hl : a.eval l = .int .i64 300) (hc : a.eval c = .int .i64 300)
    (hK : ∀ w', Arr w' w.heap.size 300 (fun _ => 0) → Below w.heap.size w w' → wpList Try.prog ops Q rest (a.put o.dst (.slice (some ⟨w.heap.size, 0, none⟩) 300 300)) w') : wpList Try.prog ops Q (o :: rest) a w := by
  obtain ⟨i0, hi, hz0, hz1, hz2⟩ := info_parts infoI
  refine wpList_make_full w hgd l c 30 ho w.heap.size 3 i0 _ 1 Try.underlying30 hi hz0 hz1 .i64 .i64 300 300 300 hl hc rfl rfl (by rw [hz2]; omega) (by unfold maxLen; omega) (Nat.le_refl _) ?_
  intro w1 hown hgrow
  refine hK w1 ⟨(hown.lt _ rfl).2, fun j hj => ⟨?_, hown.frozenAt j⟩⟩ ((Below.refl _ _).grown hgrow (Nat.le_refl _) (fun k hk => by simp at hk))
  refine own_cell hown ?_
  rw [show (Value.int .i64 0).cells = #[Value.int .i64 0] from rfl, toList_madeCells_one, List.getElem?_replicate, if_pos (by omega)]
theorem make_bools {ops : Array Oper} {rest : List Oper} {o : Oper} {a : Act} {Q : Exit → Act → World → Prop} (hgd : o.guard = none) (w : World) (l c : Operand) (ho : o.op = Op.makeSlice 31 l c) (hl : a.eval l = .int .i64 300) (hc : a.eval c = .int .i64 300)
    (hK : ∀ w', BArr w' w.heap.size 300 (fun _ => false) → Below w.heap.size w w' → wpList Try.prog ops Q rest (a.put o.dst (.slice (some ⟨w.heap.size, 0, none⟩) 300 300)) w') : wpList Try.prog ops Q (o :: rest) a w := by
  obtain ⟨i0, hi, hz0, hz1, hz2⟩ := info_parts infoB
  refine wpList_make_full w hgd l c 31 ho w.heap.size 4 i0 _ 1 Try.underlying31 hi hz0 hz1 .i64 .i64 300 300 300 hl hc rfl rfl (by rw [hz2]; omega) (by unfold maxLen; omega) (Nat.le_refl _) ?_
  intro w1 hown hgrow
  refine hK w1 ⟨(hown.lt _ rfl).2, fun j hj => ⟨?_, hown.frozenAt j⟩⟩ ((Below.refl _ _).grown hgrow (Nat.le_refl _) (fun k hk => by simp at hk))
  refine own_cell hown ?_
  rw [show (Value.bool false).cells = #[Value.bool false] from rfl, toList_madeCells_one, List.getElem?_replicate, if_pos (by omega)]
/-- The three rows of the law, and that all older blocks are as they were. -/
structure Tri (w5 wx : World) (gl gd gm : Nat) (la di : Nat → Int) (me : Nat → Bool) : Prop where
  al : Arr wx gl 300 la
  ad : Arr wx gd 300 di
  am : BArr wx gm 300 me
  bel : Below gl w5 wx
  ne : gl < gd ∧ gd < gm
theorem Tri.below {w5 wx wy : World} {gl gd gm : Nat} {la di : Nat → Int} {me : Nat → Bool} (h : Tri w5 wx gl gd gm la di me) (hb : Below wx.heap.size wx wy) : Tri w5 wy gl gd gm la di me :=
  ⟨h.al.below hb, h.ad.below hb, h.am.below hb, h.bel.trans (hb.mono (Nat.le_of_lt h.al.lt)), h.ne⟩
theorem Tri.drew {w5 wx : World} {gl gd gm : Nat} {la di : Nat → Int} {me : Nat → Bool} (h : Tri w5 wx gl gd gm la di me) : Tri w5 wx.drew gl gd gm la di me := h.below (Below.refl _ _).drew
theorem Tri.drewN {w5 wx : World} {gl gd gm : Nat} {la di : Nat → Int} {me : Nat → Bool} (h : Tri w5 wx gl gd gm la di me) (n : Nat) : Tri w5 (wx.drewN n) gl gd gm la di me := h.below (below_drewNt _ _)
theorem Tri.setD {w5 wx : World} {gl gd gm : Nat} {la di : Nat → Int} {me : Nat → Bool} (h : Tri w5 wx gl gd gm la di me) (p : Nat) (hp : p < 300) (x : Int) : Tri w5 (wx.setCell ⟨gd, p, none⟩ (.int .i64 x)) gl gd gm la (updN di p x) me :=
  have hn := h.ne
  ⟨h.al.other (by omega), h.ad.set p hp x, h.am.other (by omega), h.bel.setCell (show gl ≤ (⟨gd, p, none⟩ : Addr).block from Nat.le_of_lt h.ne.1) _, h.ne⟩
theorem Tri.setL {w5 wx : World} {gl gd gm : Nat} {la di : Nat → Int} {me : Nat → Bool} (h : Tri w5 wx gl gd gm la di me) (p : Nat) (hp : p < 300) (x : Int) : Tri w5 (wx.setCell ⟨gl, p, none⟩ (.int .i64 x)) gl gd gm (updN la p x) di me :=
  have hn := h.ne
  ⟨h.al.set p hp x, h.ad.other (by omega), h.am.other (by omega), h.bel.setCell (show gl ≤ (⟨gl, p, none⟩ : Addr).block from Nat.le_refl _) _, h.ne⟩
theorem Tri.setM {w5 wx : World} {gl gd gm : Nat} {la di : Nat → Int} {me : Nat → Bool} (h : Tri w5 wx gl gd gm la di me) (p : Nat) (hp : p < 300) (x : Bool) : Tri w5 (wx.setCell ⟨gm, p, none⟩ (.bool x)) gl gd gm la di (updN me p x) :=
  have hn := h.ne
  ⟨h.al.other (by omega), h.ad.other (by omega), h.am.set p hp x, h.bel.setCell (show gl ≤ (⟨gm, p, none⟩ : Addr).block by show gl ≤ gm; omega) _, h.ne⟩
/-- What the law's loop keeps. -/
structure LS (us : List POp) (i : Nat) (fs : List Fr) (hd : Nat) (la di : Nat → Int) (me : Nat → Bool) : Prop where
  st : (stN i us (List.replicate 8 f0, 0)).2 = (fs, hd)
  inv : Inv fs la di me
  hand : hd < 8
  big : ∀ p, 0 ≤ la p ∧ la p ≤ i
  fin : ∀ h : 0 < i ∧ i - 1 < us.length, (us[i - 1]'h.2).kd = 4 → ∀ p, p < 300 → la p = di p
theorem ls0 (us : List POp) : LS us 0 (List.replicate 8 f0) 0 (fun _ => 0) (fun _ => 0) (fun _ => false) := ⟨rfl, inv0, by omega, fun p => ⟨by omega, by simp⟩, fun h => absurd h.1 (Nat.lt_irrefl _)⟩
theorem LS.step {us : List POp} {i : Nat} {fs : List Fr} {hd : Nat} {la di : Nat → Int} {me : Nat → Bool} (h : LS us i fs hd la di me) (hi : i < us.length) : (stN (i + 1) us (List.replicate 8 f0, 0)).2 = (stepF us[i] fs hd).2 := by
  have e := stN_on (n := i) (os := us) (s := (List.replicate 8 f0, 0)) (out := (stN i us (List.replicate 8 f0, 0)).1) (fs := fs) (h := hd) (by rw [← h.st]) hi
  rw [e]
theorem LS.out {us : List POp} {i : Nat} {fs : List Fr} {hd : Nat} {la di : Nat → Int} {me : Nat → Bool} {ps : List (Value × POut)} (h : LS us i fs hd la di me) (hi : i < us.length) (hm : ps.map Prod.snd = runF us (List.replicate 8 f0) 0) (hp : i < ps.length) : ps[i].2 = (stepF us[i] fs hd).1 := by
  have e := run_at us i hi
  rw [← hm, h.st] at e
  simpa [List.getElem?_eq_getElem hp] using e
theorem LS.next4 {us : List POp} {i : Nat} {fs : List Fr} {hd : Nat} {la di : Nat → Int} {me : Nat → Bool} (h : LS us i fs hd la di me) (hi : i < us.length) (hk : us[i].kd = 4) {al : List Int} {fs2 : List Fr} (hcl : clP 300 ([], fs) = (al, fs2)) : LS us (i + 1) fs2 hd la (diK la di al) me := by
  have C := clean_law fs la di me h.inv
  rw [hcl] at C
  have hs : stepF us[i] fs hd = (⟨-1, -1, al⟩, fs2, hd) := by unfold stepF; rw [if_pos hk, hcl]
  refine ⟨by rw [h.step hi, hs], C.inv, h.hand, fun p => ⟨(h.big p).1, by have := (h.big p).2; omega⟩, fun _ _ => C.done⟩
theorem LS.nextU {us : List POp} {i : Nat} {fs : List Fr} {hd : Nat} {la di : Nat → Int} {me : Nat → Bool} (h : LS us i fs hd la di me) (hi : i < us.length) (hk : us[i].kd = 1 ∨ us[i].kd = 2 ∨ us[i].kd = 3) (U : UseL us[i] fs hd la di me) : LS us (i + 1) (stepF us[i] fs hd).2.1 (stepF us[i] fs hd).2.2 (laU la us[i]) (diU la di (stepF us[i] fs hd).1.wr) (updN me us[i].pg.toNat true) := by
  refine ⟨by rw [h.step hi], U.inv, U.hand h.hand, fun p => ?_, fun h1 h2 => ?_⟩
  · unfold laU
    split
    · by_cases e : p = us[i].pg.toNat
      · subst e; rw [updN_same]; have := h.big us[i].pg.toNat; omega
      · rw [updN_ne _ _ e]; have := h.big p; omega
    · have := h.big p; omega
  · simp only [Nat.add_sub_cancel] at h2
    omega
end Go.Proofs.YtbndliedcanmgaaR
