import Derived.Test.YtcgnkcehjcednaaDoorJG0
import Derived.Test.YtcgnkcehjcednaaDoorX2
import Derived.Test.YtcgnkcehjcednaaDoorJG1
import Derived.Deep.QuietTactic
import Derived.BigQuiet
namespace Go.Proofs.YtcgnkcehjcednaaDoor
open Go.ChangeShapes Go.WideShapes Go.ChangeAt Go.RowKit Go.Shelf
set_option linter.unusedVariables false
set_option linter.unusedSimpArgs false
set_option maxRecDepth 100000
namespace Lx
open Df (tkc tkD unlexF UPost Tk tkc_get)
theorem ba_list (x : ByteArray) : (⟨x.data.toList.toArray⟩ : ByteArray) = x := by cases x; simp
/-- The tokens that came back, as values. -/
def vals (zs : List Tok) : List TV := zs.map fun z => (z.1, ⟨z.2.1.toArray⟩, (z.2.2 : Int))
theorem tcells_vals (zs : List Tok) : tcells zs = tkc (vals zs) := by
  induction zs with
  | nil => rfl
  | cons z zs ih => simp [tcells, tkc, vals] at ih ⊢; exact ih
/-- What a list of tokens and what came back have in common. -/
structure Back (us vs : List TV) : Prop where
  len : vs.length = us.length
  kind : ∀ i (h : i < us.length) (h' : i < vs.length), vs[i].1 = us[i].1
  text : ∀ i (h : i < us.length) (h' : i < vs.length), vs[i].2.1 = us[i].2.1
  pos : ∀ i (h : i + 1 < vs.length) (h' : i < vs.length), vs[i].2.2 < vs[i + 1].2.2
  same : unlexR vs = unlexR us
theorem unlexR_same {us vs : List TV} (h : vs.map (fun t => (t.1, t.2.1)) = us.map (fun t => (t.1, t.2.1))) : unlexR vs = unlexR us := by
  have hl : vs.length = us.length := by have := congrArg List.length h; simpa using this
  have h1 : allOK vs = allOK us := by
    have e : ∀ ts : List TV, allOK ts = (ts.map (fun t => (t.1, t.2.1))).all (fun p => okB p.1 p.2.data.toList) := fun ts => by unfold allOK; rw [List.all_map]; rfl
    rw [e, e, h]
  have h2 : uTexts vs = uTexts us := by
    have e : ∀ ts : List TV, uTexts ts = (ts.map (fun t => (t.1, t.2.1))).map (fun p => (⟨(tokText p.1 p.2.data.toList).toArray⟩ : ByteArray)) := fun ts => by unfold uTexts; rw [List.map_map]; rfl
    rw [e, e, h]
  unfold unlexR
  rw [hl, h1]
  unfold uText
  rw [h2]
theorem lex_back (us : List TV) (h : (unlexR us).2 = 0) : (unlexR us).1.size ≤ 8000 ∧ us.length ≤ 2000 ∧ ∃ zs : List Tok, LexR (unlexR us).1.data.toList 0 [] (.ok zs) ∧ Back us (vals zs) := by
  unfold unlexR at h
  by_cases h1 : 2000 < us.length ∨ allOK us = false
  · rw [if_pos h1] at h; cases h
  rw [if_neg h1] at h
  by_cases h2 : 8000 < (uText us).length
  · rw [if_pos h2] at h; cases h
  have hR : unlexR us = (⟨(uText us).toArray⟩, 0) := by unfold unlexR; rw [if_neg h1, if_neg h2]
  rw [hR]
  have hok : allOK us = true := by
    cases e : allOK us with
    | true => rfl
    | false => exact absurd (.inr e) h1
  have hl : us.length ≤ 2000 := by have : ¬ 2000 < us.length := fun e => h1 (.inl e); omega
  have hv : ∀ t ∈ us.map (fun t : TV => (t.1, t.2.1.data.toList)), tokOK t.1 t.2 := by
    intro t ht
    obtain ⟨u, hu, rfl⟩ := List.mem_map.1 ht
    unfold allOK at hok
    exact (okB_iff _ _).1 (List.all_eq_true.1 hok u hu)
  have hj : (uText us).drop 0 = Lib.join ((us.map (fun t : TV => (t.1, t.2.1.data.toList))).map fun t => tokText t.1 t.2) [32] := by
    rw [List.drop_zero]
    unfold uText uTexts
    rw [List.map_map, List.map_map]
    first
      | rfl
      | (congr 1; done)
      | (congr 1
         apply List.map_congr_left
         intro t _
         simp)
  obtain ⟨zs, hz1, hz2, hz3, hz4⟩ := lex_join (uText us) _ 0 [] hv (by simpa using hl) hj
  refine ⟨by simp [ByteArray.size]; omega, hl, zs, by simpa using hz1, ?_⟩
  have hm : (vals zs).map (fun t => (t.1, t.2.1)) = us.map (fun t => (t.1, t.2.1)) := by
    have := congrArg (List.map (fun p : Int × List UInt8 => (p.1, (⟨p.2.toArray⟩ : ByteArray)))) hz2
    rw [List.map_map, List.map_map] at this
    unfold vals
    rw [List.map_map]
    refine Eq.trans ?_ (this.trans ?_)
    · rfl
    · apply List.map_congr_left
      intro t _
      simp [ba_list]
  have hlen : (vals zs).length = us.length := by have := congrArg List.length hm; simpa using this
  have hget : ∀ i (h : i < us.length) (h' : i < (vals zs).length), ((vals zs)[i].1, (vals zs)[i].2.1) = (us[i].1, us[i].2.1) := by
    intro i h h'
    have := congrArg (fun l => l[i]?) hm
    simp only [List.getElem?_map, List.getElem?_eq_getElem h, List.getElem?_eq_getElem h', Option.map_some, Option.some.injEq] at this
    exact this
  refine ⟨hlen, fun i h h' => (Prod.mk.inj (hget i h h')).1, fun i h h' => (Prod.mk.inj (hget i h h')).2, fun i h h' => ?_, (unlexR_same hm).trans rfl⟩
  have hzl : (vals zs).length = zs.length := by simp [vals]
  have := List.pairwise_iff_getElem.1 hz4 i (i + 1) (by omega) (by omega) (by omega)
  simp only [vals, List.getElem_map]
  omega
theorem rt_of {w : World} {B : Nat} {v : Value} {us : List TV} (h : w.ownsRow B 47 3 v us.length (tkc us)) : RT w v us := by
  have h0 := h
  rcases h.2 with ⟨rfl, e⟩ | ⟨g, cap, cur, rfl, _, hg, _⟩
  · exact ⟨none, 0, by rw [e], fun hp => by omega⟩
  · refine ⟨_, cap, rfl, fun hp => ⟨g, rfl, (Array.getElem?_eq_some_iff.1 hg).1, fun i hi => ?_⟩⟩
    obtain ⟨q0, q1, q2⟩ := tkc_get us i hi
    have e : us.getD i tkD = us[i] := by rw [List.getD_eq_getElem?_getD, List.getElem?_eq_getElem hi]; rfl
    rw [e] at q0 q1 q2
    exact ⟨Df.cell_at h0 q0, Df.cell_at h0 q1, Df.cell_at h0 q2⟩
/-- The bytes of the code. -/
def Code (w : World) (v0 : Option Addr) (bs : List Int) : Prop := bs.length ≤ 1048576 ∧ ∀ j, j < bs.length → ∃ g o, v0 = some ⟨g, o, none⟩ ∧ g < w.heap.size ∧ w.cell? ⟨g, o + j, none⟩ = some (.int .u8 (bs.getD j 0)) ∧ 0 ≤ bs.getD j 0 ∧ bs.getD j 0 < 256
theorem Code.below {w w' : World} {v0 : Option Addr} {bs : List Int} (h : Code w v0 bs) (hb : Below w.heap.size w w') : Code w' v0 bs := ⟨h.1, fun j hj => by
  obtain ⟨g, o, e1, e2, e3, e4, e5⟩ := h.2 j hj
  exact ⟨g, o, e1, Nat.lt_of_lt_of_le e2 hb.size, (hb.cell (p := ⟨g, o + j, none⟩) e2).trans e3, e4, e5⟩⟩
theorem draw_any (v0 : Option Addr) (bs : List Int) (cap : Nat) (w : World) (h : Code w v0 bs) : Calls Tryd.prog 29 #[.slice v0 bs.length cap] w fun e w' => UPost bs w e w' := by
  by_cases m1 : (Df.modeF bs ⟨0, 0⟩).1 = 1
  · by_cases hz : (Df.drawListF bs (Df.modeF bs ⟨0, 0⟩).2).1.length = 0
    · exact Df.unlex_empty v0 bs cap _ w rfl h.1 h.2 m1 hz
    · by_cases hs : (Df.pickF bs 3 (Df.pick1F bs (Df.drawListF bs (Df.modeF bs ⟨0, 0⟩).2).1.length (Df.drawListF bs (Df.modeF bs ⟨0, 0⟩).2).2).2).1 = 1
      · exact Df.unlex_text v0 bs cap _ w rfl h.1 h.2 m1 (by omega) hs
      · exact Df.unlex_kind v0 bs cap _ w rfl h.1 h.2 m1 (by omega) hs
  · by_cases m2 : (Df.modeF bs ⟨0, 0⟩).1 = 2
    · by_cases hs : (Df.pickF bs 2 (Df.drawListF bs (Df.modeF bs ⟨0, 0⟩).2).2).1 = 0
      · exact Df.unlex_fill v0 bs cap _ w rfl h.1 h.2 m2 hs
      · exact Df.unlex_forty v0 bs cap _ w rfl h.1 h.2 m2 hs
    · exact Df.unlex_plain v0 bs cap _ w rfl h.1 h.2 m1 m2
end Lx
end Go.Proofs.YtcgnkcehjcednaaDoor
namespace Go.Proofs.YtcgnkcehjcednaaDoor
open Go.ChangeShapes Go.WideShapes Go.ChangeAt Go.RowKit Go.Shelf
set_option linter.unusedVariables false
set_option linter.unusedSimpArgs false
set_option maxRecDepth 100000
namespace Lx
open Df (tkc tkD unlexF UPost Tk tkc_get)
theorem chainX {w W w' : World} (h : Below w.heap.size w W) (hb : Below W.heap.size W w') : Below w.heap.size w w' := h.trans (hb.mono h.size)
theorem drewX {B : Nat} {w w' : World} (h : Below B w w') (n : Nat) : Below B w (w'.drewN n) := ⟨h.os, h.tape, h.output, h.size, h.block⟩
set_option maxHeartbeats 16000000 in
theorem lexed_walk (v0 : Option Addr) (bs : List Int) (cap : Nat) (w : World) (hcode : Code w v0 bs) (hT : Tabs w) (hM : ML w) :
    Calls Tryd.prog 8 #[.slice v0 bs.length cap] w fun e w' => e = .returned (.bool true) ∧ Below w.heap.size w w' := by
  have hli : ¬ (1048576 : Int) < (bs.length : Int) := by have := hcode.1; omega
  obtain ⟨us, hus⟩ : ∃ us, unlexF bs = us := ⟨_, rfl⟩
  have HUS : Hid (unlexF bs = us) := hus
  obtain ⟨⟨T, ec⟩, hR⟩ : ∃ r, unlexR us = r := ⟨_, rfl⟩
  have HR : Hid (unlexR us = (T, ec)) := hR
  have HCO : Hid (Code w v0 bs) := hcode
  clear hus hR hcode
  go_enter Tryd.func8, Tryd.ntmps8
  go_wp2_with fail
  refine (draw_any v0 bs cap _ HCO.out).mono ?_
  unfold UPost
  rw [HUS.out]
  rintro e w1 ⟨v1, rfl, ho1, hb1, hs1, hn1⟩
  have HRT1 : Hid (RT w1 v1 us) := rt_of ho1
  have HS1 : Hid (∀ t ∈ us, t.2.1.size ≤ 300) := hs1
  have bw1 : Below w.heap.size w w1 := hb1
  obtain ⟨a1, c1, rfl, hg1⟩ := HRT1.out
  have HG1 : Hid (0 < us.length → ∃ g, a1 = some ⟨g, 0, none⟩ ∧ g < w1.heap.size ∧ ∀ i (h : i < us.length), w1.cell? ⟨g, i * 3, none⟩ = some (.int .i64 us[i].1) ∧ w1.cell? ⟨g, i * 3 + 1, none⟩ = some (.string us[i].2.1) ∧ w1.cell? ⟨g, i * 3 + 2, none⟩ = some (.int .i64 us[i].2.2)) := hg1
  have hml : us.length ≤ maxLen := by unfold maxLen; omega
  clear ho1 hb1 hs1 hg1
  go_wp2_with fail
  refine (unlexS_any a1 c1 us w1 hml (fun t ht => Nat.le_trans (HS1.out t ht) (by decide)) HRT1.out).mono ?_
  rw [HR.out]
  rintro e w2 ⟨rfl, hb2⟩
  have bw2 := chainX bw1 hb2
  go_wp2_with fail
  refine (draw_any v0 bs cap _ (HCO.out.below bw2)).mono ?_
  unfold UPost
  rw [HUS.out]
  rintro e w3 ⟨v3, rfl, ho3, hb3, _, _⟩
  have HRT3 : Hid (RT w3 v3 us) := rt_of ho3
  obtain ⟨a3, c3, rfl, _⟩ := HRT3.out
  have bw3 := chainX bw2 hb3
  clear ho3
  go_wp2_with fail
  refine (unlex_any a3 c3 us w3 hml (fun t ht => Nat.le_trans (HS1.out t ht) (by decide)) HRT3.out (tabs_below hT bw3) (hM.below bw3)).mono ?_
  rw [HR.out]
  rintro e w4 ⟨rfl, hb4⟩
  have bw4 := chainX bw3 hb4
  have b14 : Below w1.heap.size w1 w4 := (hb2.trans ((hb3.mono hb2.size))).trans (hb4.mono (by have := hb2.size; have := hb3.size; omega))
  clear hb2 hb3 hb4
  by_cases e0 : ec = 0
  · subst e0
    obtain ⟨h8, h2k, zs, hlex, hback⟩ := lex_back us (by rw [HR.out])
    rw [HR.out] at h8 hlex
    simp only at h8 hlex
    have HLEX : Hid (LexR T.data.toList 0 [] (.ok zs)) := hlex
    obtain ⟨vs, hvs⟩ : ∃ vs, vals zs = vs := ⟨_, rfl⟩
    have HVS : Hid (vals zs = vs) := hvs
    rw [hvs] at hback
    have HB : Hid (Back us vs) := hback
    have hvl : vs.length = us.length := hback.len
    clear hlex hvs hback
    go_wp2_with fail
    refine (lex_any T w4 h8 (tabs_below hT bw4)).mono ?_
    rintro e w5 ⟨r, hr, hm, hb5⟩
    obtain rfl := LexR.det hr HLEX.out
    obtain ⟨v5, rfl, ho5⟩ := hm
    rw [tcells_vals, HVS.out, show zs.length = vs.length by rw [← HVS.out]; simp [vals]] at ho5
    have HRT5 : Hid (RT w5 v5 vs) := rt_of ho5
    obtain ⟨a5, c5, rfl, hg5⟩ := HRT5.out
    have HG5 : Hid (0 < vs.length → ∃ g, a5 = some ⟨g, 0, none⟩ ∧ g < w5.heap.size ∧ ∀ i (h : i < vs.length), w5.cell? ⟨g, i * 3, none⟩ = some (.int .i64 vs[i].1) ∧ w5.cell? ⟨g, i * 3 + 1, none⟩ = some (.string vs[i].2.1) ∧ w5.cell? ⟨g, i * 3 + 2, none⟩ = some (.int .i64 vs[i].2.2)) := hg5
    have bw5 := chainX bw4 hb5
    have b15 : Below w1.heap.size w1 w5 := b14.trans (hb5.mono b14.size)
    clear ho5 hr hg5 hb5
    go_wp2
    go_loopw [58] (fun vi wr => ∃ i : Nat, vi = .int .i64 i ∧ i ≤ vs.length ∧ Below w5.heap.size w5 wr) (fun vi _ => vs.length - (intOf vi).toNat)
    case atStart => exact ⟨0, rfl, by omega, Below.refl _ _⟩
    case round =>
      obtain ⟨i, rfl, hiv, hbr⟩ := hrel
      have hz5 := hbr.size
      by_cases hlt : i < vs.length
      · have hlti : (i : Int) < vs.length := by omega
        have hiu : i < us.length := by omega
        obtain ⟨g1, rfl, hg1z, hg1c⟩ := HG1.out (by omega)
        obtain ⟨g5, rfl, hg5z, hg5c⟩ := HG5.out (by omega)
        obtain ⟨l0, l1, l2⟩ := hg1c i hiu
        obtain ⟨k0, k1, k2⟩ := hg5c i hlt
        rw [HB.out.kind i hiu hlt] at k0
        rw [HB.out.text i hiu hlt] at k1
        have b1r : Below w1.heap.size w1 wr := b15.trans (hbr.mono b15.size)
        have m0 : wr.cell? ⟨g1, i * 3, none⟩ = some (.int .i64 us[i].1) := (b1r.cell (p := ⟨g1, i * 3, none⟩) hg1z).trans l0
        have m1 : wr.cell? ⟨g1, i * 3 + 1, none⟩ = some (.string us[i].2.1) := (b1r.cell (p := ⟨g1, i * 3 + 1, none⟩) hg1z).trans l1
        have n0 : wr.cell? ⟨g5, i * 3, none⟩ = some (.int .i64 us[i].1) := (hbr.cell (p := ⟨g5, i * 3, none⟩) hg5z).trans k0
        have n1 : wr.cell? ⟨g5, i * 3 + 1, none⟩ = some (.string us[i].2.1) := (hbr.cell (p := ⟨g5, i * 3 + 1, none⟩) hg5z).trans k1
        have n2 : wr.cell? ⟨g5, i * 3 + 2, none⟩ = some (.int .i64 vs[i].2.2) := (hbr.cell (p := ⟨g5, i * 3 + 2, none⟩) hg5z).trans k2
        have hg1r : g1 < wr.heap.size := by have := b1r.size; omega
        have hg5r : g5 < wr.heap.size := by omega
        have d1 : g1 ≠ wr.heap.size := by omega
        have d2 : g5 ≠ wr.heap.size := by omega
        have d3 : wr.heap.size ≠ g1 := by omega
        have d4 : wr.heap.size ≠ g5 := by omega
        obtain ⟨K, hK⟩ : ∃ K, us[i].1 = K := ⟨_, rfl⟩
        obtain ⟨X, hX⟩ : ∃ X, us[i].2.1 = X := ⟨_, rfl⟩
        obtain ⟨P, hP⟩ : ∃ P, vs[i].2.2 = P := ⟨_, rfl⟩
        rw [hK] at m0 n0
        rw [hX] at m1 n1
        rw [hP] at n2
        have xk : (K != K) = false := bne_self_eq_false K
        clear l0 l1 l2 k0 k1 k2 hK hX
        by_cases hi0 : 0 < i
        · obtain ⟨j, rfl⟩ : ∃ j, i = j + 1 := ⟨i - 1, by omega⟩
          obtain ⟨_, _, q2⟩ := hg5c j (by omega)
          have p2 : wr.cell? ⟨g5, j * 3 + 2, none⟩ = some (.int .i64 (vs[j]'(by omega)).2.2) := (hbr.cell (p := ⟨g5, j * 3 + 2, none⟩) hg5z).trans q2
          have hpos := HB.out.pos j hlt (by omega)
          rw [hP] at hpos
          obtain ⟨Q, hQ⟩ : ∃ Q, (vs[j]'(by omega)).2.2 = Q := ⟨_, rfl⟩
          rw [hQ] at p2 hpos
          have y0 : decide (0 < ((j : Int) + 1)) = true := by first | (simp; done) | (simp; omega)
          have y1 : decide (P ≤ Q) = false := by first | (simp; done) | (simp; omega)
          clear hg1c hg5c hQ hP q2
          go_wp2
          go_quiet (fail)
          go_wp2
          go_roundw
          case rel => exact ⟨j + 1 + 1, by go_num, by omega, drewX (hbr.trans (by (go_light; repeat (first | with_reducible exact Below.refl _ _ | (with_reducible refine Below.setCell ?_ ?_ _; rotate_left; (focus first | (simp; done) | (simp; omega) | omega)) | (with_reducible refine Below.alloc ?_ ?_ _; rotate_left; (focus first | (simp; done) | (simp; omega) | omega)) | with_reducible refine Below.drew ?_)))) _⟩
          case measure => simp [intOf]; omega
        · obtain rfl : i = 0 := by omega
          clear hg1c hg5c hP
          go_wp2
          go_quiet (fail)
          go_wp2
          go_roundw
          case rel => exact ⟨0 + 1, by go_num, by omega, drewX (hbr.trans (by (go_light; repeat (first | with_reducible exact Below.refl _ _ | (with_reducible refine Below.setCell ?_ ?_ _; rotate_left; (focus first | (simp; done) | (simp; omega) | omega)) | (with_reducible refine Below.alloc ?_ ?_ _; rotate_left; (focus first | (simp; done) | (simp; omega) | omega)) | with_reducible refine Below.drew ?_)))) _⟩
          case measure => simp [intOf]; omega
      · have hlti : ¬ (i : Int) < vs.length := by omega
        have HRV : Hid (unlexR vs = (T, 0)) := (HB.out.same.trans HR.out : unlexR vs = (T, 0))
        have hsv : ∀ t ∈ vs, t.2.1.size ≤ 1048576 := fun t ht => by
          obtain ⟨j, hj, rfl⟩ := List.getElem_of_mem ht
          rw [HB.out.text j (by omega) hj]
          exact Nat.le_trans (HS1.out _ (List.getElem_mem _)) (by decide)
        have hmv : vs.length ≤ maxLen := by rw [hvl]; exact hml
        have bwr := chainX bw5 hbr
        have C6 : Calls Tryd.prog 28 #[.slice a5 us.length c5] wr fun e w' => e = .returned (.tuple #[.string T, .int .i64 0]) ∧ Below wr.heap.size wr w' := by
          have h6 := unlex_any a5 c5 vs wr hmv hsv (HRT5.out.below hbr) (tabs_below hT bwr) (hM.below bwr)
          rw [HRV.out, hvl] at h6
          exact h6
        go_wp2_with fail
        refine C6.mono ?_
        rintro e w6 ⟨rfl, hb6⟩
        have bw6 := chainX bwr hb6
        go_wp2
        go_ret
        exact ⟨by simp, bw6⟩
  · have x0 : (ec != 0) = true := by simpa using e0
    clear e0
    go_wp2
    go_ret
    exact ⟨rfl, bw4⟩
end Lx
end Go.Proofs.YtcgnkcehjcednaaDoor
