import Derived.Test.YtbndliedcanmgaaRPM
import Derived.Test.YtbndliedcanmgaaRMKp
namespace Go.Proofs.YtbndliedcanmgaaR
open Go.ChangeShapes Go.WideShapes Go.ChangeAt Go.RowKit
set_option linter.unusedVariables false
set_option linter.unusedSimpArgs false
set_option maxRecDepth 100000
/-- How far the marks have gone ahead of the i-th answer. -/
def kO (ps : List (Value × POut)) : Nat → Nat
  | 0 => 0
  | i + 1 => kO ps i + 2 + ((ps[i]?).map (fun x => x.2.all.length)).getD 0
theorem kO_on {ps : List (Value × POut)} {i : Nat} (h : i < ps.length) : kO ps (i + 1) = kO ps i + 2 + ps[i].2.all.length := by
  rw [kO, List.getElem?_eq_getElem h]; rfl
theorem kO_le {ps : List (Value × POut)} {M : Nat} (hM : ∀ x ∈ ps, x.2.all.length ≤ M) : ∀ i, i ≤ ps.length → kO ps i ≤ i * (M + 2)
  | 0, _ => Nat.zero_le _
  | i + 1, h => by
    have ih := kO_le hM i (by omega)
    have := hM ps[i] (List.getElem_mem (by omega))
    rw [kO_on (by omega), Nat.succ_mul]
    omega
/-- The answers in memory: the rows told up to i, the lists up to i'. -/
structure OM (B : Nat) (w : World) (g : Nat) (ps : List (Value × POut)) (k : Int) (i i' : Nat) : Prop where
  ge : B ≤ g
  lt : g < w.heap.size
  hdr : ∀ j (h : j < ps.length), w.cell? ⟨g, j * 3 + 2, none⟩ = some ps[j].1
  row : ∀ j (h : j < ps.length), Room w g (j * 3) ∧ Room w g (j * 3 + 1)
  tld : ∀ j (h : j < ps.length), j < i → w.cell? ⟨g, j * 3, none⟩ = some (.int .i64 (k + kO ps j)) ∧ w.cell? ⟨g, j * 3 + 1, none⟩ = some (.int .i64 (k + kO ps j + 1))
  own : ∀ j (h : j < ps.length), ∃ oa oc, ps[j].1 = .slice oa ps[j].2.all.length oc ∧ (0 < ps[j].2.all.length → ∃ b, oa = some ⟨b, 0, none⟩ ∧ B ≤ b ∧ b < w.heap.size ∧ b ≠ g ∧ (∀ t, t < ps[j].2.all.length → Room w b t) ∧ (j < i' → ∀ t, t < ps[j].2.all.length → w.cell? ⟨b, t, none⟩ = some (.int .i64 (k + kO ps j + 2 + t))))
def Dis (ps : List (Value × POut)) : Prop := ∀ j j' (h : j < ps.length) (h' : j' < ps.length), j ≠ j' → ∀ b, ps[j].1.ownBlock = some b → ps[j'].1.ownBlock ≠ some b
theorem OutR.dis {b : Nat} {w : World} {v : Value} {ps : List (Value × POut)} (h : OutR b w v ps) : Dis ps := fun j j' hj hj' hn c hc hc' => by
  have hp := List.pairwise_iff_getElem.1 h.2.2
  rcases Nat.lt_or_gt_of_ne hn with hl | hl
  · exact hp j j' hj hj' hl c hc hc'
  · exact hp j' j hj' hj hl c hc' hc
theorem OutR.om {B : Nat} {w : World} {g cap : Nat} {ps : List (Value × POut)} (h : OutR B w (.slice (some ⟨g, 0, none⟩) ps.length cap) ps) (k : Int) : OM B w g ps k 0 0 := by
  have hlt := h.1.lt g rfl
  have cell : ∀ j (hj : j < ps.length) t, t < 3 → w.cell? ⟨g, j * 3 + t, none⟩ = (poC ps[j])[t]? := fun j hj t ht => by
    have hf := flatP ps j hj t ht
    have hl : t < (poC ps[j]).length := by simpa [poC] using ht
    rw [List.getElem?_eq_getElem hl] at hf ⊢
    exact own_cell h.1 hf
  refine ⟨hlt.1, hlt.2, fun j hj => cell j hj 2 (by omega), fun j hj => ⟨⟨⟨_, cell j hj 0 (by omega)⟩, h.1.frozenAt _⟩, ⟨⟨_, cell j hj 1 (by omega)⟩, h.1.frozenAt _⟩⟩, fun j _ hj => absurd hj (Nat.not_lt_zero _), fun j hj => ?_⟩
  have hI := h.2.1 ps[j] (List.getElem_mem hj)
  obtain ⟨oa, oc, he⟩ := hI.form
  refine ⟨oa, oc, he, fun hp => ?_⟩
  have hI2 := hI.2
  rcases hI2 with ⟨_, h0⟩ | ⟨b, cp, cur, hv, hb1, hb2, hb3⟩
  · omega
  · rw [he] at hv
    simp only [Value.slice.injEq] at hv
    obtain ⟨rfl, _, rfl⟩ := hv
    have hbl := World.ownsRow.lt hI b (by rw [he]; rfl)
    have hne : b ≠ g := fun e => own_ne hI h.1 (by decide) (j := b) (by rw [he]; rfl) (by rw [e]; rfl)
    rw [he] at hI
    refine ⟨b, rfl, hbl.1, hbl.2, hne, fun t ht => ⟨⟨ps[j].2.all[t], own_cell hI (j := t) (by simp [List.getElem?_eq_getElem ht])⟩, World.ownsRow.frozenAt hI t⟩, fun h => absurd h (Nat.not_lt_zero _)⟩
theorem room_other {w : World} {b o c j : Nat} {x : Int} (h : Room w b o) : Room (w.setCell ⟨c, j, none⟩ (.int .i64 x)) b o := by
  refine ⟨?_, by simpa using h.2⟩
  by_cases e : (⟨c, j, none⟩ : Addr) = ⟨b, o, none⟩
  · cases e
    obtain ⟨y, hy⟩ := h.1
    exact ⟨x, World.cell?_setCell_same _ _ _ hy⟩
  · rw [World.cell?_setCell_other w ⟨c, j, none⟩ ⟨b, o, none⟩ _ e]
    exact h.1
theorem OM.step {B : Nat} {w : World} {g : Nat} {ps : List (Value × POut)} {k : Int} {i : Nat} (h : OM B w g ps k i i) (hi : i < ps.length) : OM B ((w.setCell ⟨g, i * 3, none⟩ (.int .i64 (k + kO ps i))).setCell ⟨g, i * 3 + 1, none⟩ (.int .i64 (k + kO ps i + 1))) g ps k (i + 1) i := by
  obtain ⟨⟨x0, hx0⟩, f0⟩ := (h.row i hi).1
  obtain ⟨⟨x1, hx1⟩, f1⟩ := (h.row i hi).2
  refine ⟨h.ge, by simpa [World.setCell] using h.lt, fun j hj => set_cell3 (set_cell3 (h.hdr j hj) (by omega)) (by omega), fun j hj => ⟨room_other (room_other (h.row j hj).1), room_other (room_other (h.row j hj).2)⟩, fun j hj hji => ?_, fun j hj => ?_⟩
  · by_cases e : j = i
    · subst e
      exact ⟨set_cell3 (World.cell?_setCell_same _ _ _ hx0) (by omega), World.cell?_setCell_same _ _ _ (set_cell3 hx1 (by omega))⟩
    · obtain ⟨a, b⟩ := h.tld j hj (by omega)
      exact ⟨set_cell3 (set_cell3 a (by omega)) (by omega), set_cell3 (set_cell3 b (by omega)) (by omega)⟩
  · obtain ⟨oa, oc, he, ho⟩ := h.own j hj
    refine ⟨oa, oc, he, fun hp => ?_⟩
    obtain ⟨b, e1, e2, e3, e4, e5, e6⟩ := ho hp
    refine ⟨b, e1, e2, by simpa [World.setCell] using e3, e4, fun t ht => room_other (room_other (e5 t ht)), fun hji t ht => ?_⟩
    rw [World.cell?_setCell_other _ ⟨g, i * 3 + 1, none⟩ ⟨b, t, none⟩ _ (fun e => by cases e; exact e4 rfl), World.cell?_setCell_other _ ⟨g, i * 3, none⟩ ⟨b, t, none⟩ _ (fun e => by cases e; exact e4 rfl)]
    exact e6 hji t ht
theorem OM.same {B : Nat} {w : World} {g : Nat} {ps : List (Value × POut)} {k : Int} {i : Nat} (h : OM B w g ps k (i + 1) i) (hz : ∀ hi : i < ps.length, ps[i].2.all.length = 0) : OM B w g ps k (i + 1) (i + 1) :=
  ⟨h.ge, h.lt, h.hdr, h.row, h.tld, fun j hj => by
    obtain ⟨oa, oc, he, ho⟩ := h.own j hj
    refine ⟨oa, oc, he, fun hp => ?_⟩
    obtain ⟨b, e1, e2, e3, e4, e5, e6⟩ := ho hp
    refine ⟨b, e1, e2, e3, e4, e5, fun hji => e6 ?_⟩
    by_cases e : j = i
    · subst e
      rw [hz hj] at hp
      omega
    · omega⟩
theorem OM.nest {B : Nat} {w w' : World} {g : Nat} {ps : List (Value × POut)} {k : Int} {i b oc : Nat} (hd : Dis ps) (h : OM B w g ps k (i + 1) i) (hi : i < ps.length) (hb : ps[i].1 = .slice (some ⟨b, 0, none⟩) ps[i].2.all.length oc) (hbg : b ≠ g) (m : MKd w w' b 0 (k + kO ps i + 2) ps[i].2.all.length ps[i].2.all.length) : OM B w' g ps k (i + 1) (i + 1) := by
  have bg := m.block g (fun e => hbg e.symm)
  have cg : ∀ t, w'.cell? ⟨g, t, none⟩ = w.cell? ⟨g, t, none⟩ := fun t => World.cell?_of_block (a := ⟨g, t, none⟩) bg
  have fg : ∀ t, w'.frozen? ⟨g, t, none⟩ = w.frozen? ⟨g, t, none⟩ := fun t => World.frozen?_of_block (a := ⟨g, t, none⟩) bg
  have rm : ∀ {c t}, Room w c t → Room w' c t := fun {c t} hr => by
    by_cases e : c = b
    · subst e
      refine ⟨?_, (m.froz t).trans hr.2⟩
      rcases m.ints t with h1 | h1
      · rw [h1]; exact hr.1
      · exact h1
    · have := m.block c e
      exact ⟨by rw [World.cell?_of_block (a := ⟨c, t, none⟩) this]; exact hr.1, (World.frozen?_of_block (a := ⟨c, t, none⟩) this).trans hr.2⟩
  refine ⟨h.ge, by rw [m.size]; exact h.lt, fun j hj => (cg _).trans (h.hdr j hj), fun j hj => ⟨rm (h.row j hj).1, rm (h.row j hj).2⟩, fun j hj hji => ⟨(cg _).trans (h.tld j hj hji).1, (cg _).trans (h.tld j hj hji).2⟩, fun j hj => ?_⟩
  obtain ⟨oa, oc', he, ho⟩ := h.own j hj
  refine ⟨oa, oc', he, fun hp => ?_⟩
  obtain ⟨c, rfl, e2, e3, e4, e5, e6⟩ := ho hp
  refine ⟨c, rfl, e2, by rw [m.size]; exact e3, e4, fun t ht => rm (e5 t ht), fun hji t ht => ?_⟩
  by_cases e : j = i
  · subst e
    rw [hb] at he
    simp only [Value.slice.injEq, Option.some.injEq, Addr.mk.injEq] at he
    obtain ⟨⟨rfl, _⟩, _⟩ := he
    have := m.told t ht
    rw [Nat.zero_add] at this
    exact this
  · have hcb : c ≠ b := fun e' => hd j i hj hi e c (by rw [he]; rfl) (by rw [hb, e']; rfl)
    rw [World.cell?_of_block (a := ⟨c, t, none⟩) (m.block c hcb)]
    exact e6 (by omega) t ht
theorem OM.below {B : Nat} {w w' : World} {g : Nat} {ps : List (Value × POut)} {k : Int} {i i' : Nat} (h : OM B w g ps k i i') (hb : Below w.heap.size w w') : OM B w' g ps k i i' := by
  have rm : ∀ {c t}, c < w.heap.size → Room w c t → Room w' c t := fun {c t} hc hr => ⟨by rw [hb.cell (p := ⟨c, t, none⟩) hc]; exact hr.1, (hb.frozen (p := ⟨c, t, none⟩) hc).trans hr.2⟩
  refine ⟨h.ge, Nat.lt_of_lt_of_le h.lt hb.size, fun j hj => (hb.cell (p := ⟨g, j * 3 + 2, none⟩) h.lt).trans (h.hdr j hj), fun j hj => ⟨rm h.lt (h.row j hj).1, rm h.lt (h.row j hj).2⟩, fun j hj hji => ⟨(hb.cell (p := ⟨g, j * 3, none⟩) h.lt).trans (h.tld j hj hji).1, (hb.cell (p := ⟨g, j * 3 + 1, none⟩) h.lt).trans (h.tld j hj hji).2⟩, fun j hj => ?_⟩
  obtain ⟨oa, oc, he, ho⟩ := h.own j hj
  refine ⟨oa, oc, he, fun hp => ?_⟩
  obtain ⟨b, e1, e2, e3, e4, e5, e6⟩ := ho hp
  exact ⟨b, e1, e2, Nat.lt_of_lt_of_le e3 hb.size, e4, fun t ht => rm e3 (e5 t ht), fun hji t ht => (hb.cell (p := ⟨b, t, none⟩) e3).trans (e6 hji t ht)⟩
end Go.Proofs.YtbndliedcanmgaaR
