import Derived.Test.YtjfgojlnpbehfaaDT
import Derived.Deep.RegionLawGrows
namespace Go.Proofs.Ytjfgojlnpbehfaa
open Go.ChangeShapes Go.WideShapes Go.ChangeAt Go.RowKit
set_option linter.unusedVariables false
set_option linter.unusedSimpArgs false
set_option maxRecDepth 100000
theorem list_of {α : Type} (P : Nat → α → Prop) : ∀ n, (∀ i, i < n → ∃ x, P i x) → ∃ l : List α, l.length = n ∧ ∀ i (h : i < l.length), P i l[i]
  | 0, _ => ⟨[], rfl, fun i h => absurd h (Nat.not_lt_zero _)⟩
  | n + 1, hp => by
    obtain ⟨l, hl, hq⟩ := list_of P n (fun i hi => hp i (by omega))
    obtain ⟨x, hx⟩ := hp n (by omega)
    refine ⟨l ++ [x], by simp [hl], fun i h => ?_⟩
    by_cases e : i < l.length
    · rw [List.getElem_append_left e]; exact hq i e
    · have : i = l.length := by simp at h; omega
      subst this
      simp
      rw [hl]; exact hx
/-- The cells of a list, one behind the other. -/
theorem RS.flat {α : Type} {k : Nat} {C : Nat → World → List Value → α → Prop} (hC : Lies k C) {B g o cap : Nat} {w : World} {us : List α} (h : RS k C B w (.slice (some ⟨g, o, none⟩) us.length cap) us) : ∃ news, Fill k C B us us.length news w ∧ ∀ j u, news[j]? = some u → w.cell? ⟨g, o + j, none⟩ = some u := by
  obtain ⟨a, c, he, hc⟩ := h
  simp only [Value.slice.injEq] at he
  obtain ⟨rfl, _, rfl⟩ := he
  have key : ∀ i, i < us.length * k → ∃ x, w.cell? ⟨g, o + i, none⟩ = some x := fun i hi => by
    have hk : 0 < k := by
      rcases Nat.eq_zero_or_pos k with h0 | h0
      · rw [h0, Nat.mul_zero] at hi; omega
      · exact h0
    have hq : i / k < us.length := Nat.div_lt_of_lt_mul (by rw [Nat.mul_comm]; exact hi)
    obtain ⟨g', o', ha, _, _, hcc⟩ := hc (Nat.lt_of_le_of_lt (Nat.zero_le _) hq)
    cases ha
    obtain ⟨cs, hcs, hcell⟩ := hcc _ hq
    have hm : i % k < k := Nat.mod_lt _ hk
    have := hcell (i % k) hm
    rw [show o + i / k * k + i % k = o + i by have := Nat.div_add_mod' i k; omega, List.getElem?_eq_getElem (by rw [hC.len hcs]; exact hm)] at this
    exact ⟨_, this⟩
  obtain ⟨news, hl, hn⟩ := list_of _ _ key
  refine ⟨news, ⟨hl, fun i hi _ => ?_⟩, fun j u hj => ?_⟩
  · obtain ⟨g', o', ha, _, _, hcc⟩ := hc (by omega)
    cases ha
    obtain ⟨cs, hcs, hcell⟩ := hcc i hi
    refine ⟨cs, hcs, fun j hj => ?_⟩
    have hlt : i * k + j < news.length := by rw [hl]; have := mul_le (K := k) hi; omega
    rw [← hcell j hj, show o + i * k + j = o + (i * k + j) by omega, hn _ hlt, List.getElem?_eq_getElem hlt]
  · obtain ⟨hlt, rfl⟩ := List.getElem?_eq_some_iff.1 hj
    exact hn j hlt
theorem Fill.below {α : Type} {K : Nat} {C : Nat → World → List Value → α → Prop} (hC : Lies K C) {B k : Nat} {us : List α} {xs : List Value} {w w' : World} (h : Fill K C B us k xs w) (hb : Below w.heap.size w w') : Fill K C B us k xs w' :=
  ⟨h.1, fun i hi hik => let ⟨cs, a, b⟩ := h.2 i hi hik; ⟨cs, hC.below a hb, b⟩⟩
theorem Fill.mono {α : Type} {K : Nat} {C : Nat → World → List Value → α → Prop} (hC : Lies K C) {B D k : Nat} {us : List α} {xs : List Value} {w : World} (h : Fill K C B us k xs w) (hb : D ≤ B) : Fill K C D us k xs w :=
  ⟨h.1, fun i hi hik => let ⟨cs, a, b⟩ := h.2 i hi hik; ⟨cs, hC.mono a hb, b⟩⟩
theorem fill_nil {α : Type} (K : Nat) (C : Nat → World → List Value → α → Prop) (B : Nat) (w : World) : Fill K C B ([] : List α) 0 [] w := ⟨by simp, fun i h => absurd h (Nat.not_lt_zero _)⟩
theorem Fill.append {α : Type} {K : Nat} {C : Nat → World → List Value → α → Prop} {B : Nat} {us vs : List α} {xs ys : List Value} {w : World} (h : Fill K C B us us.length xs w) (g : Fill K C B vs vs.length ys w) : Fill K C B (us ++ vs) (us ++ vs).length (xs ++ ys) w := by
  refine ⟨by rw [List.length_append, h.1, g.1, List.length_append, Nat.add_mul], fun i hi _ => ?_⟩
  by_cases e : i < us.length
  · obtain ⟨cs, a, b⟩ := h.2 i e e
    refine ⟨cs, by rw [List.getElem_append_left e]; exact a, fun j hj => ?_⟩
    rw [List.getElem?_append_left (by rw [h.1]; have := mul_le (K := K) e; omega)]
    exact b j hj
  · have hi' : i - us.length < vs.length := by rw [List.length_append] at hi; omega
    obtain ⟨cs, a, b⟩ := g.2 _ hi' hi'
    refine ⟨cs, by rw [List.getElem_append_right (by omega)]; exact a, fun j hj => ?_⟩
    have hge : us.length * K ≤ i * K := Nat.mul_le_mul_right K (by omega)
    rw [List.getElem?_append_right (by rw [h.1]; omega), h.1, show i * K + j - us.length * K = (i - us.length) * K + j by rw [Nat.sub_mul]; omega]
    exact b j hj
theorem fill_one {α : Type} {K : Nat} {C : Nat → World → List Value → α → Prop} (hC : Lies K C) {B : Nat} {t : α} {cs : List Value} {w : World} (h : C B w cs t) : Fill K C B [t] 1 cs w :=
  ⟨by rw [hC.len h]; simp, fun i hi _ => by
    have : i = 0 := by simp at hi; omega
    subst this
    exact ⟨cs, h, fun j hj => by simp⟩⟩
/-- A row that was built is a list. -/
theorem Fill.own {α : Type} {K : Nat} {C : Nat → World → List Value → α → Prop} (hC : Lies K C) {B D e : Nat} {us : List α} {xs : List Value} {v : Value} {w : World} (h : Fill K C B us us.length xs w) (ho : w.ownsRow D e K v us.length xs) (hB : D ≤ B) : RS K C D w v us := by
  obtain ⟨hl, h2⟩ := ho
  rcases h2 with ⟨rfl, h0⟩ | ⟨g, cap, cur, rfl, hg1, hg2, hg3⟩
  · exact ⟨none, 0, by rw [h0], fun hp => by omega⟩
  · have ho : w.ownsRow D e K (.slice (some ⟨g, 0, none⟩) us.length cap) us.length xs := ⟨hl, .inr ⟨g, cap, cur, rfl, hg1, hg2, hg3⟩⟩
    refine ⟨_, _, rfl, fun _ => ⟨g, 0, rfl, hg1, (ho.lt _ rfl).2, fun i hi => ?_⟩⟩
    obtain ⟨cs, a, b⟩ := h.2 i hi hi
    refine ⟨cs, hC.mono a hB, fun j hj => ?_⟩
    rw [Nat.zero_add, ← b j hj]
    have hx : i * K + j < xs.length := by rw [h.1]; have := mul_le (K := K) hi; omega
    rw [List.getElem?_eq_getElem hx]
    exact own_cell ho (List.getElem?_eq_getElem hx)
theorem Fill.one {α : Type} {K : Nat} {C : Nat → World → List Value → α → Prop} (h1 : ∀ {B w cs x}, C B w cs x → ∀ u ∈ cs, u.oneCell' = true) (hC : Lies K C) {B : Nat} {us : List α} {xs : List Value} {w : World} (h : Fill K C B us us.length xs w) : ∀ u ∈ xs, u.oneCell' = true := fun u hu => by
  obtain ⟨i, hi, rfl⟩ := List.getElem_of_mem hu
  have hk : 0 < K := by
    rcases Nat.eq_zero_or_pos K with h0 | h0
    · have := h.1; rw [h0, Nat.mul_zero] at this; omega
    · exact h0
  have hq : i / K < us.length := Nat.div_lt_of_lt_mul (by rw [Nat.mul_comm, ← h.1]; exact hi)
  obtain ⟨cs, a, b⟩ := h.2 _ hq hq
  have hm : i % K < K := Nat.mod_lt _ hk
  have := b _ hm
  rw [show i / K * K + i % K = i from Nat.div_add_mod' i K, List.getElem?_eq_getElem hi, List.getElem?_eq_getElem (by rw [hC.len a]; exact hm)] at this
  rw [Option.some.inj this]
  exact h1 a _ (List.getElem_mem _)
theorem oneI : ∀ {B : Nat} {w : World} {cs : List Value} {x : Int}, CI B w cs x → ∀ u ∈ cs, u.oneCell' = true := fun h u hu => by
  unfold CI at h; subst h; simp at hu; subst hu; rfl
theorem Blk.grown {w w' : World} {b : Nat} {cs : List Value} {row : Option Nat} (h : Blk w b cs) (hg : w.grownBy w' row) (hb : b < w.heap.size) (hr : some b ≠ row) : Blk w' b cs := fun j hj => by
  have e : w'.heap[(⟨b, j, none⟩ : Addr).block]? = w.heap[(⟨b, j, none⟩ : Addr).block]? := hg.block b hb hr
  exact ⟨(World.cell?_of_block e).trans (h j hj).1, (World.frozen?_of_block e).trans (h j hj).2⟩
theorem Blk.cells {w : World} {b : Nat} {cs : List Value} (h : Blk w b cs) : ∀ j u, cs[j]? = some u → w.cell? ((⟨b, 0, none⟩ : Addr).add j) = some u := fun j u hj => by
  obtain ⟨hlt, rfl⟩ := List.getElem?_eq_some_iff.1 hj
  rw [Addr.add_lit, Nat.zero_add, (h j hlt).1]
  exact List.getElem?_eq_getElem hlt
theorem step_append_own {P : Program} {ops : Array Oper} {o : Oper} {a : Act} {w : World} {K : Act → World → Prop} {Q : Exit → Act → World → Prop} {E : Prop}
    (hg : o.guard = none) (s x : Operand) (t : TypeId) (hop : o.op = Op.call { callee := Callee.builtin Builtin.append, args := #[s, x], argTypes := #[t, t] })
    (base : Nat) (e : TypeId) (i : TypeInfo) (z : Value) (size bytes : Nat) (h1 : P.underlying t = some (.slice e)) (h2 : P.info? e = some i) (h3 : i.zero = some z) (h4 : i.size = size) (h5 : i.bytes = bytes) (h6 : z.cells.size = size) (h7 : 0 < size)
    (v : Value) (n : Nat) (xs : List Value) (hs : a.eval s = v) (hown : w.ownsRow base e size v n xs)
    (ad : Addr) (m c : Nat) (news : List Value) (hx : a.eval x = .slice (some ad) m c) (hn : news.length = m * size) (hc : ∀ j u, news[j]? = some u → w.cell? (ad.add j) = some u) (h1c : ∀ u ∈ news, u.oneCell' = true)
    (b1 : n + m ≤ maxLen) (b2 : (n + m) * bytes ≤ 140737488355328) (hbase : base ≤ w.heap.size)
    (hK : ∀ v' w', w'.ownsRow base e size v' (n + m) (xs ++ news) → w.grownBy w' v.ownBlock → (v' = .slice none 0 0 ↔ v = .slice none 0 0 ∧ m = 0) → K (a.put o.dst v') w') :
    if Region.wanted o (yielded ops a.tmps) = true then Oper.wp P o a w K Q else E := by
  have hw : Region.wanted o (yielded ops a.tmps) = true := by simp [Region.wanted, hg]
  rw [if_pos hw]
  obtain ⟨v', w', hrun, r1, r2, r3⟩ := run_append_own (P := P) w base t o.type e i z size bytes h1 h2 h3 h4 h5 h6 h7 v n xs hown ad m c news hn hc h1c b1 b2 hbase
  unfold Oper.wp
  simp [execOp, hop, resolve, invoke, builtin, hs, hx, hrun, Result.andThen]
  exact hK v' w' r1 r2 r3
end Go.Proofs.Ytjfgojlnpbehfaa
