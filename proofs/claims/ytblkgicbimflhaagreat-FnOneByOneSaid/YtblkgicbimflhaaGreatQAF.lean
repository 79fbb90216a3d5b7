import Derived.Test.YtblkgicbimflhaaGreatQAE
import Derived.Test.YtblkgicbimflhaaGreatQAB
import Derived.OneCell
import Derived.Test.YtblkgicbimflhaaGreatQAC
import Derived.Deep.RegionHeld
namespace Go.Proofs.YtblkgicbimflhaaGreat
open Go.ChangeShapes Go.WideShapes Go.ChangeAt Go.RowKit
set_option linter.unusedVariables false
set_option linter.unusedSimpArgs false
set_option maxRecDepth 100000
set_option maxHeartbeats 16000000
theorem hist_rise {us : List TI} (h : histP us) : ∀ (d i : Nat) (hd : i + d + 1 < us.length), (us[i]'(by omega)).com < us[i + d + 1].com
 | 0, i, hd => by
   have := (h.2 (i + 1) hd us[i + 1] (List.getElem?_eq_getElem hd)).2.2.1 (us[i]'(by omega)) (by omega) (by simp)
   simpa using this
 | d + 1, i, hd => by
   have ih := hist_rise h d i (by omega)
   have := (h.2 (i + d + 1 + 1) hd us[i + d + 1 + 1] (List.getElem?_eq_getElem hd)).2.2.1 (us[i + d + 1]'(by omega)) (by omega) (by simp)
   have e : us[i + (d + 1) + 1].com = us[i + d + 1 + 1].com := rfl
   rw [e]
   omega
theorem hist_lt {us : List TI} (h : histP us) {i j : Nat} (hij : i < j) (hj : j < us.length) : (us[i]'(by omega)).com < us[j].com := by
 have := hist_rise h (j - i - 1) i (by omega)
 have e : i + (j - i - 1) + 1 = j := by omega
 simpa [e] using this
theorem hist_begin {us : List TI} (h : histP us) {i : Nat} (hi : i < us.length) : us[i].bgn < us[i].com := (h.2 i hi us[i] (List.getElem?_eq_getElem hi)).2.1
theorem least_mem : ∀ (S : List Nat), S ≠ [] -> ∃ k ∈ S, ∀ j ∈ S, k <= j
 | [], h => absurd rfl h
 | [a], _ => ⟨a, by simp, fun j hj => by simp at hj; omega⟩
 | a :: b :: r, _ => by
   obtain ⟨k, hk, hl⟩ := least_mem (b :: r) (by simp)
   by_cases hak : a <= k
   .exact ⟨a, by simp, fun j hj => by
     rcases List.mem_cons.1 hj with rfl | hj
     .exact Nat.le_refl _
     .have := hl j hj; omega⟩
   .exact ⟨k, List.mem_cons_of_mem _ hk, fun j hj => by
     rcases List.mem_cons.1 hj with rfl | hj
     .omega
     .exact hl j hj⟩
theorem pick_some {us : List TI} (h : histP us) (hd : ¬ dangP us) (out : List Nat) (hn : remL us.length out ≠ []) : ¬ NoPick us out := fun hno => by
 obtain ⟨k, hk, hl⟩ := least_mem _ hn
 have hku := (remL_mem.1 hk).1
 have lt_of : ∀ (i : Nat) (hi : i ∈ remL us.length out), i ≠ k -> us[k].com < (us[i]'((remL_mem.1 hi).1)).com := fun i hi hne => hist_lt h (by have := hl i hi; omega) (remL_mem.1 hi).1
 obtain ⟨a, ha, hak⟩ : ∃ a ∈ remL us.length out, aheadB us a k = true := by
  have := hno k hk
  rw [Ne, cntL_zero] at this
  have := Classical.not_forall.1 this
  obtain ⟨a, ha⟩ := this
  have := Classical.not_imp.1 ha
  exact ⟨a, this.1, by simpa using this.2⟩
 have hau := (remL_mem.1 ha).1
 rw [aheadB_at (List.getElem?_eq_getElem hau) (List.getElem?_eq_getElem hku)] at hak
 simp only [Bool.and_eq_true, bne_iff_ne, ne_eq, Bool.or_eq_true, decide_eq_true_eq] at hak
 obtain ⟨hne, hor⟩ := hak
 have h1 := lt_of a ha hne
 have hbk := hist_begin h hku
 have hlead : leadsP us[a] us[k] := by
  rcases hor with e | e
  .omega
  .exact e
 obtain ⟨b, hb, hba⟩ : ∃ b ∈ remL us.length out, aheadB us b a = true := by
  have := hno a ha
  rw [Ne, cntL_zero] at this
  have := Classical.not_forall.1 this
  obtain ⟨b, hb⟩ := this
  have := Classical.not_imp.1 hb
  exact ⟨b, this.1, by simpa using this.2⟩
 have hbu := (remL_mem.1 hb).1
 rw [aheadB_at (List.getElem?_eq_getElem hbu) (List.getElem?_eq_getElem hau)] at hba
 simp only [Bool.and_eq_true, bne_iff_ne, ne_eq, Bool.or_eq_true, decide_eq_true_eq] at hba
 obtain ⟨hnb, hor2⟩ := hba
 rcases hor2 with e | e
 .have hc := hlead.1
  by_cases ebk : b = k
  .subst ebk; omega
  .have := lt_of b hb ebk; omega
 .exact hd ⟨a, hau, us[a], List.getElem?_eq_getElem hau, ⟨b, us[b], hbu, hnb, List.getElem?_eq_getElem hbu, e⟩, ⟨k, us[k], hku, fun e => hne e.symm, List.getElem?_eq_getElem hku, hlead⟩⟩
theorem pig : ∀ (n : Nat) (out : List Nat), (∀ k, k < n -> k ∈ out) -> n <= out.length
 | 0, _, _ => Nat.zero_le _
 | n + 1, out, h => by
   have hn := h n (by omega)
   have ih := pig n (out.erase n) (fun k hk => (List.mem_erase_of_ne (by omega)).2 (h k (by omega)))
   rw [List.length_erase_of_mem hn] at ih
   have := List.length_pos_of_mem hn
   omega
theorem remL_ne {n : Nat} {out : List Nat} (h : out.length < n) : remL n out ≠ [] := fun e => by
 have := pig n out (fun k hk => by
  have hm : k ∉ remL n out := by rw [e]; simp
  rw [remL_mem] at hm
  exact Classical.byContradiction fun hn => hm ⟨hk, hn⟩)
 omega
theorem serC_good {us : List TI} {l : List Int} {c : Int} (h : histP us) (hd : ¬ dangP us) (hs : SerC us l c) : ∃ out : List Nat, SerOut us out /\ out.length = us.length /\ l = out.map Int.ofNat /\ c = 0 := by
 rcases hs with ⟨hn, _⟩ | ⟨_, out, h1, h2, h3, h4⟩ | ⟨_, out, h1, h2, h3, _⟩
 .exact absurd h hn
 .exact ⟨out, h1, h2, h3, h4⟩
 .exact absurd h3 (pick_some h hd out (remL_ne h2))
theorem serOut_lt {us : List TI} {out : List Nat} (h : SerOut us out) {m x : Nat} (hm : out[m]? = some x) : x < us.length := (remL_mem.1 (h m x hm).1).1
theorem serOut_ok {us : List TI} {out : List Nat} (h : SerOut us out) {m m' x y : Nat} (hmm : m < m') (hx : out[m]? = some x) (hy : out[m']? = some y) : x ≠ y /\ aheadB us y x = false := by
 have px := h m x hx
 have py := h m' y hy
 have hyn := (remL_mem.1 py.1).2
 have hyr : y ∈ remL us.length (out.take m) := remL_mem.2 ⟨(remL_mem.1 py.1).1, fun hmem => hyn (by
  have : out.take m = (out.take m').take m := by rw [List.take_take]; congr 1; omega
  rw [this] at hmem
  exact List.mem_of_mem_take hmem)⟩
 refine ⟨fun e => ?_, ?_⟩
 .subst e
  apply hyn
  rw [List.mem_iff_getElem?]
  exact ⟨m, by rw [List.getElem?_take_of_lt hmm]; exact hx⟩
 .exact (cntL_zero.1 px.2.1) y hyr
def RowOf {α : Type} (f : α -> Value) (ty b : Nat) (w : World) (g : Nat) (xs : List α) : Prop := w.ownsRow b ty 1 (.slice (some ⟨g, 0, none⟩) xs.length xs.length) xs.length (xs.map f)
theorem RowOf.cell {α : Type} {f : α -> Value} {ty b g j : Nat} {w : World} {xs : List α} (h : RowOf f ty b w g xs) (hj : j < xs.length) : w.cell? ⟨g, j, none⟩ = some (f xs[j]) := own_cell h (by rw [List.getElem?_map, List.getElem?_eq_getElem hj]; rfl)
theorem RowOf.frozen {α : Type} {f : α -> Value} {ty b g : Nat} {w : World} {xs : List α} (h : RowOf f ty b w g xs) (j : Nat) : w.frozen? ⟨g, j, none⟩ = false := World.ownsRow.frozenAt h j
theorem RowOf.set {α : Type} {f : α -> Value} {ty b g : Nat} {w : World} {xs : List α} (h : RowOf f ty b w g xs) (j : Nat) (x : α) : RowOf f ty b (w.setCell ⟨g, j, none⟩ (f x)) g (xs.set j x) := by
 have := (World.ownsRow.stored h j (f x)).1
 unfold RowOf
 rw [List.length_set, List.map_set]
 exact this
theorem RowOf.below {α : Type} {f : α -> Value} {ty b g : Nat} {w w' : World} {xs : List α} (h : RowOf f ty b w g xs) (hb : Below w.heap.size w w') : RowOf f ty b w' g xs := own_below h hb
theorem RowOf.lt {α : Type} {f : α -> Value} {ty b g : Nat} {w : World} {xs : List α} (h : RowOf f ty b w g xs) : b <= g /\ g < w.heap.size := World.ownsRow.lt h g rfl
theorem RowOf.grown {α : Type} {f : α -> Value} {ty b g : Nat} {w w' : World} {xs : List α} {row : Option Nat} (h : RowOf f ty b w g xs) (hg : w.grownBy w' row) (hr : row ≠ some g) : RowOf f ty b w' g xs :=
 World.ownsRow.kept h hg (.inr (by simpa [Value.ownBlock] using fun e => hr e.symm))
abbrev IRow := @RowOf Int (Value.int .i64)
abbrev BRow := @RowOf Bool Value.bool
theorem rowI {b : Nat} {ty : Nat} {w : World} {g n : Nat} {xs : List Value} (h : w.ownsRow b ty 1 (.slice (some ⟨g, 0, none⟩) n n) n xs) (hx : xs = (List.replicate n (0 : Int)).map (Value.int .i64)) : IRow ty b w g (List.replicate n 0) := by
 subst hx
 unfold IRow RowOf
 rw [List.length_replicate]
 exact h
theorem rowB {b : Nat} {ty : Nat} {w : World} {g n : Nat} {xs : List Value} (h : w.ownsRow b ty 1 (.slice (some ⟨g, 0, none⟩) n n) n xs) (hx : xs = (List.replicate n false).map Value.bool) : BRow ty b w g (List.replicate n false) := by
 subst hx
 unfold BRow RowOf
 rw [List.length_replicate]
 exact h
def RSW {α : Type} (k : Nat) (C : Nat -> World -> List Value -> α -> Prop) (B : Nat) (w : World) (v : Value) (xs : List α) : Prop :=
 ∃ a cap, v = .slice a xs.length cap /\ (0 < xs.length -> ∃ g o, a = some ⟨g, o, none⟩ /\ B <= g /\ g < w.heap.size /\ ∀ i (h : i < xs.length), ∃ cs, C B w cs xs[i] /\ ∀ j, j < k -> w.cell? ⟨g, o + i * k + j, none⟩ = cs[j]? /\ w.frozen? ⟨g, o + i * k + j, none⟩ = false)
theorem RSW.rs {α : Type} {k : Nat} {C D : Nat -> World -> List Value -> α -> Prop} {B : Nat} {w : World} {v : Value} {xs : List α} (h : RSW k C B w v xs) (hd : ∀ {cs x}, C B w cs x -> D B w cs x) : RS k D B w v xs := by
 obtain ⟨a, cap, rfl, h2⟩ := h
 refine ⟨a, cap, rfl, fun hp => ?_⟩
 obtain ⟨g, o, ha, hB, hg, hc⟩ := h2 hp
 exact ⟨g, o, ha, hB, hg, fun i hi => let ⟨cs, x, y⟩ := hc i hi; ⟨cs, hd x, fun j hj => (y j hj).1⟩⟩
theorem RSW.mono {α : Type} {k : Nat} {C : Nat -> World -> List Value -> α -> Prop} (hC : Lies k C) {B D : Nat} {w : World} {v : Value} {xs : List α} (h : RSW k C B w v xs) (hd : D <= B) : RSW k C D w v xs := by
 obtain ⟨a, cap, rfl, h2⟩ := h
 refine ⟨a, cap, rfl, fun hp => ?_⟩
 obtain ⟨g, o, ha, hB, hg, hc⟩ := h2 hp
 exact ⟨g, o, ha, Nat.le_trans hd hB, hg, fun i hi => let ⟨cs, x, y⟩ := hc i hi; ⟨cs, hC.mono x hd, y⟩⟩

def OutRow (ty b : Nat) (w : World) (v : Value) (out : List Nat) : Prop := w.ownsRow b ty 1 v out.length (out.map (fun k : Nat => Value.int .i64 (k : Int)))
theorem OutRow.rs {ty b : Nat} {w : World} {v : Value} {out : List Nat} (h : OutRow ty b w v out) : RS 1 CI b w v (out.map Int.ofNat) := by
 have hf : Fill 1 CI b (out.map Int.ofNat) (out.map Int.ofNat).length (out.map (fun k : Nat => Value.int .i64 (k : Int))) w := ⟨by simp, fun i hi _ => ⟨[.int .i64 (out.map Int.ofNat)[i]], rfl, fun j hj => by
  have : j = 0 := by omega
  subst this
  simp at hi
  simp [hi]⟩⟩
 have h' : w.ownsRow b ty 1 v (out.map Int.ofNat).length (out.map (fun k : Nat => Value.int .i64 (k : Int))) := by rw [List.length_map]; exact h
 exact hf.own liesI h' (Nat.le_refl _)
theorem OutRow.rsw {ty b : Nat} {w : World} {v : Value} {out : List Nat} (h : OutRow ty b w v out) : RSW 1 CI b w v (out.map Int.ofNat) := by
 have hr := h.rs
 obtain ⟨hl, h2⟩ := h
 rcases h2 with ⟨rfl, h0⟩ | ⟨g, cap, cur, rfl, hg1, hg2, hg3⟩
 .exact ⟨none, 0, by rw [List.length_map, h0], fun hp => by rw [List.length_map] at hp; omega⟩
 .have ho : w.ownsRow b ty 1 (.slice (some ⟨g, 0, none⟩) out.length cap) out.length (out.map (fun k : Nat => Value.int .i64 (k : Int))) := ⟨hl, .inr ⟨g, cap, cur, rfl, hg1, hg2, hg3⟩⟩
  obtain ⟨a', c', he, hh⟩ := hr
  refine ⟨a', c', he, fun hp => ?_⟩
  obtain ⟨g', o', ha, hB, hg, hc⟩ := hh hp
  rw [ha] at he
  simp only [Value.slice.injEq, Option.some.injEq, Addr.mk.injEq] at he
  obtain ⟨⟨rfl, rfl, _⟩, _⟩ := he
  exact ⟨g, 0, ha, hB, hg, fun i hi => let ⟨cs, x, y⟩ := hc i hi; ⟨cs, x, fun j hj => ⟨y j hj, ho.frozenAt _⟩⟩⟩
theorem OutRow.form {ty b : Nat} {w : World} {v : Value} {out : List Nat} (h : OutRow ty b w v out) : ∃ oa oc, v = .slice oa out.length oc := by
 obtain ⟨_, h2⟩ := h
 rcases h2 with ⟨rfl, h0⟩ | ⟨q, cap, cur, rfl, _⟩
 .exact ⟨none, 0, by rw [h0]⟩
 .exact ⟨_, _, rfl⟩
theorem OutRow.below {ty b : Nat} {w w' : World} {v : Value} {out : List Nat} (h : OutRow ty b w v out) (hb : Below w.heap.size w w') : OutRow ty b w' v out := own_below h hb
theorem info3 : (Tryz.prog.info? 3).map (fun i => (i.zero, i.size, i.bytes)) = some (some (.int .i64 0), 1, 8) := by kernel_rfl
theorem info4 : (Tryz.prog.info? 4).map (fun i => (i.zero, i.size, i.bytes)) = some (some (.bool false), 1, 1) := by kernel_rfl
theorem ahead_iff {us : List TI} (h : histP us) {k l : Nat} {s t : TI} (hs : us[k]? = some s) (ht : us[l]? = some t) : (s.com <= t.bgn \/ leadB s t) ↔ aheadB us k l = true := by
 rw [aheadB_at hs ht]
 have hn := com_ne h hs ht
 by_cases e : k = l
 .subst e
  have := hs.symm.trans ht
  cases this
  obtain ⟨hk, rfl⟩ := List.getElem?_eq_some_iff.1 hs
  have := hist_begin h hk
  simp
  exact ⟨by omega, fun z => z.1 rfl⟩
 .have hc := hn.2 e
  unfold leadB
  simp [e, hc]
theorem indexOf_impl (g c : Nat) (ws : List Int) (b : Nat) (x : Int) (w : World) (hn : ws.length <= 1000) (hr : IRow 3 b w g ws) :
 Calls Tryz.prog 25 #[.slice (some ⟨g, 0, none⟩) ws.length c, .int .i64 x] w fun e w' => ((∃ k : Nat, ∃ hk : k < ws.length, e = .returned (.int .i64 (k : Int)) /\ ws[k] = x /\ ∀ j (hj : j < k), ws[j]'(by omega) ≠ x) \/ (e = .returned (.int .i64 (-1)) /\ ∀ j (hj : j < ws.length), ws[j] ≠ x)) /\ w' = w := by
 have HR := hid hr
 clear hr
 go_enter Tryz.func25, Tryz.ntmps25
 go_wp2
 go_loopw [8] (fun iv wx => ∃ j : Nat, iv = .int .i64 (j : Int) /\ j <= ws.length /\ Hid (∀ i (hi : i < ws.length), i < j -> ws[i] ≠ x) /\ wx = w) (fun iv _ => ws.length - (intOf iv).toNat)
 case atStart => exact ⟨0, rfl, Nat.zero_le _, (fun i _ h => by omega : ∀ i (hi : i < ws.length), i < 0 -> ws[i] ≠ x), rfl⟩
 case round =>
  obtain ⟨j, rfl, hj, HA, hww⟩ := hrel
  replace hww := hww.symm
  subst hww
  by_cases hlt : j < ws.length
  .have hlti : (j : Int) < ws.length := by omega
   have c0 : w.cell? ⟨g, j, none⟩ = some (.int .i64 ws[j]) := HR.out.cell hlt
   by_cases hx : x = ws[j]
   .have HF : Hid (ws[j] = x) := hx.symm
    have hb : (x == ws[j]) = true := by simpa using hx
    clear hx
    generalize hy : ws[j] = y at c0 hb
    go_wp2
    go_ret
    exact ⟨.inl ⟨j, hlt, rfl, HF.out, fun i hi => HA.out i (by omega) hi⟩, rfl⟩
   .have HA2 : Hid (∀ i (hi : i < ws.length), i < j + 1 -> ws[i] ≠ x) := hid (fun i hi hij => by
     by_cases e : i = j
     .subst e; exact fun z => hx z.symm
     .exact HA.out i hi (by omega))
    have hb : (x == ws[j]) = false := by simpa using hx
    clear hx HA
    generalize ws[j] = y at c0 hb
    go_wp2
    go_roundw
    case rel => exact ⟨j + 1, by go_num, by omega, HA2, by first | exact rfl | trivial⟩
    case measure => simp [intOf]; omega
  .have hje : j = ws.length := by omega
   subst hje
   go_wp2
   go_ret
   exact ⟨.inr ⟨rfl, fun i hi => HA.out i hi hi⟩, rfl⟩
def Cnts (us : List TI) (ws : List Int) (k j : Nat) : Prop := ws.length = us.length /\ ∀ l (h : l < ws.length), ws[l] = if l < k then (cntL us (List.range us.length) l : Int) else if l = k then (cntL us (List.range j) l : Int) else 0
theorem cnts_start (us : List TI) : Cnts us (List.replicate us.length 0) 0 0 := ⟨by simp, fun l h => by simp [cntL]⟩
theorem Cnts.next {us : List TI} {ws : List Int} {k : Nat} (h : Cnts us ws k us.length) : Cnts us ws (k + 1) 0 := ⟨h.1, fun l hl => by
 have := h.2 l hl
 rw [this]
 rcases Nat.lt_trichotomy l k with e | e | e
 .rw [if_pos e, if_pos (by omega)]
 .rw [if_neg (by omega), if_pos e, if_pos (by omega)]
 .rw [if_neg (by omega), if_neg (by omega), if_neg (by omega)]
  by_cases e2 : l = k + 1
  .rw [if_pos e2]; simp [cntL]
  .rw [if_neg e2]⟩
theorem Cnts.keep {us : List TI} {ws : List Int} {k j : Nat} (h : Cnts us ws k j) (ha : aheadB us j k = false) : Cnts us ws k (j + 1) := ⟨h.1, fun l hl => by
 have := h.2 l hl
 rw [this]
 by_cases e : l = k
 .subst e
  rw [if_neg (by omega), if_pos rfl, if_neg (by omega), if_pos rfl, cntL_succ, ha]; simp
 .simp [e]⟩
theorem Cnts.step {us : List TI} {ws : List Int} {k j : Nat} (h : Cnts us ws k j) (hk : k < ws.length) (ha : aheadB us j k = true) : Cnts us (ws.set k (ws[k] + 1)) k (j + 1) := ⟨by rw [List.length_set]; exact h.1, fun l hl => by
 rw [List.length_set] at hl
 have := h.2 l hl
 by_cases e : l = k
 .subst e
  rw [List.getElem_set_self, this, if_neg (by omega), if_pos rfl, if_neg (by omega), if_pos rfl, cntL_succ, ha]; simp
 .rw [List.getElem_set_ne (by omega), this]; simp [e]⟩
theorem Cnts.small {us : List TI} {ws : List Int} {k j : Nat} (h : Cnts us ws k j) (hk : k < ws.length) : 0 <= ws[k] /\ ws[k] <= j := by
 have := h.2 k hk
 rw [if_neg (by omega), if_pos rfl] at this
 have h2 := cntL_le us (List.range j) k
 rw [List.length_range] at h2
 omega
theorem waits_impl (a : Option Addr) (c : Nat) (us : List TI) (B : Nat) (w : World) (hH : histP us) (hr : RS 4 CDl B w (.slice a us.length c) us) :
 Calls Tryz.prog 24 #[.slice a us.length c] w fun e w' => ∃ (g : Nat) (ws : List Int), e = .returned (.slice (some ⟨g, 0, none⟩) us.length us.length) /\ IRow 3 w.heap.size w' g ws /\ Cnts us ws us.length 0 /\ Below w.heap.size w w' := by
 obtain ⟨i0, hi, hz0, hz1, hz2⟩ := info_parts info3
 have hn1 : us.length <= 1000 := hH.1
 have HH := hid hH
 have HR := hid hr
 clear hH hr
 go_enter Tryz.func24, Tryz.ntmps24
 go_wp2_with (refine wpList_make_full _ rfl (.tmp 9) (.tmp 9) 32 rfl w.heap.size 3 i0 _ 1 Tryz.underlying32 hi hz0 hz1 .i64 .i64 us.length us.length us.length rfl rfl rfl rfl (by rw [hz2]; omega) (by unfold maxLen; omega) (Nat.le_refl _) ?_; intro w2 hown hgrow)
 have bw2 : Below w.heap.size w w2 := (Below.refl _ w).grown hgrow (Nat.le_refl _) (fun k hk => by simp at hk)
 have RW0 : Hid (IRow 3 w.heap.size w2 w.heap.size (List.replicate us.length 0)) := rowI hown (by rw [Nat.mul_one]; simp [toList_madeCells_one, Value.cells])
 clear hown hgrow
 obtain ⟨gw, hgw⟩ : ∃ x, x = w.heap.size := ⟨_, rfl⟩
 have hgw0 : w.heap.size <= gw := by omega
 rw [show (Value.slice (some ⟨w.heap.size, 0, none⟩) us.length us.length) = .slice (some ⟨gw, 0, none⟩) us.length us.length by rw [hgw]]
 rw [show (IRow 3 w.heap.size w2 w.heap.size (List.replicate us.length 0)) = IRow 3 w.heap.size w2 gw (List.replicate us.length 0) by rw [hgw]] at RW0
 clear hgw
 go_loopw [13] (fun iv wr => ∃ (k : Nat) (ws : List Int), k <= us.length /\ iv = .int .i64 k /\ Hid (IRow 3 w.heap.size wr gw ws) /\ Hid (Cnts us ws k 0) /\ Below w.heap.size w wr) (fun iv _ => us.length - (intOf iv).toNat)
 case atStart => exact ⟨0, _, Nat.zero_le _, rfl, RW0, cnts_start us, bw2⟩
 case round =>
  clear RW0 bw2
  obtain ⟨k, ws0, hk, rfl, RW0, HW0, hbel⟩ := hrel
  have hbs := hbel.size
  by_cases hlt : k < us.length
  .have hlti : (k : Int) < us.length := by omega
   obtain ⟨g, o, rfl, _, hg, hgc⟩ := deal_at HR.out (by omega)
   obtain ⟨hT, c0, c1, c2, c3⟩ := hgc k hlt
   have HD : Hid (us[k]? = some us[k]) := List.getElem?_eq_getElem hlt
   have HGC := hid hgc
   clear hgc
   generalize us[k] = p at *
   replace c0 := (hbel.cell (p := ⟨g, o + k * 4, none⟩) hg).trans c0
   replace c1 := (hbel.cell (p := ⟨g, o + k * 4 + 1, none⟩) hg).trans c1
   replace c2 := (hbel.cell (p := ⟨g, o + k * 4 + 2, none⟩) hg).trans c2
   replace c3 := (hbel.cell (p := ⟨g, o + k * 4 + 3, none⟩) hg).trans c3
   have KP0 := hid (blk_new wr [.int .i64 p.bgn, .int .i64 p.com, .int .u64 (bitsOf p.reads : Nat), .int .u64 (bitsOf p.writes : Nat)] 89)
   have bwA : Below w.heap.size w (wr.alloc (.cells #[.int .i64 p.bgn, .int .i64 p.com, .int .u64 (bitsOf p.reads : Nat), .int .u64 (bitsOf p.writes : Nat)] 89)) := hbel.alloc hbs _
   have RW1 := hid (RW0.out.below (below_alloc wr (.cells #[.int .i64 p.bgn, .int .i64 p.com, .int .u64 (bitsOf p.reads : Nat), .int .u64 (bitsOf p.writes : Nat)] 89)))
   have hzA : wr.heap.size < (wr.alloc (.cells #[.int .i64 p.bgn, .int .i64 p.com, .int .u64 (bitsOf p.reads : Nat), .int .u64 (bitsOf p.writes : Nat)] 89)).heap.size := by simp
   have hgwz : gw < wr.heap.size := RW0.out.lt.2
   go_wp2
   obtain ⟨gp, hgp⟩ : ∃ x, x = wr.heap.size := ⟨_, rfl⟩
   rw [<- hgp] at KP0 hzA hgwz
   rw [<- hgp]
   go_loopw [20] (fun jv wr => ∃ (l : Nat) (ws : List Int), l <= us.length /\ jv = .int .i64 l /\ Hid (IRow 3 w.heap.size wr gw ws) /\ Hid (Cnts us ws k l) /\ Hid (Blk wr gp [.int .i64 p.bgn, .int .i64 p.com, .int .u64 (bitsOf p.reads : Nat), .int .u64 (bitsOf p.writes : Nat)]) /\ gp < wr.heap.size /\ Below w.heap.size w wr) (fun jv _ => us.length - (intOf jv).toNat)
   case atStart => exact ⟨0, ws0, Nat.zero_le _, rfl, RW1, HW0, KP0, hzA, bwA⟩
   case round =>
    clear KP0 hzA bwA hbel hbs hgp c0 c1 c2 c3 RW1 RW0 HW0
    obtain ⟨l, ws, hl, rfl, RW, HW, KP, hzp, hbel⟩ := hrel
    have hbs := hbel.size
    by_cases hlt2 : l < us.length
    .have hlti2 : (l : Int) < us.length := by omega
     obtain ⟨hTu, d0, d1, d2, d3⟩ := HGC.out l hlt2
     have HU : Hid (us[l]? = some us[l]) := List.getElem?_eq_getElem hlt2
     generalize us[l] = u at *
     replace d0 := (hbel.cell (p := ⟨g, o + l * 4, none⟩) hg).trans d0
     replace d1 := (hbel.cell (p := ⟨g, o + l * 4 + 1, none⟩) hg).trans d1
     replace d2 := (hbel.cell (p := ⟨g, o + l * 4 + 2, none⟩) hg).trans d2
     replace d3 := (hbel.cell (p := ⟨g, o + l * 4 + 3, none⟩) hg).trans d3
     have HAI := hid (ahead_iff HH.out HU.out HD.out)
     have KB := hid (KP.out.below (below_alloc wr (.cells #[.int .i64 u.bgn, .int .i64 u.com, .int .u64 (bitsOf u.reads : Nat), .int .u64 (bitsOf u.writes : Nat)] 89)) hzp)
     replace RW := hid (RW.out.below (below_alloc wr (.cells #[.int .i64 u.bgn, .int .i64 u.com, .int .u64 (bitsOf u.reads : Nat), .int .u64 (bitsOf u.writes : Nat)] 89)))
     have bwW : Below w.heap.size w (wr.alloc (.cells #[.int .i64 u.bgn, .int .i64 u.com, .int .u64 (bitsOf u.reads : Nat), .int .u64 (bitsOf u.writes : Nat)] 89)) := hbel.alloc hbs _
     have hzp2 : gp < (wr.alloc (.cells #[.int .i64 u.bgn, .int .i64 u.com, .int .u64 (bitsOf u.reads : Nat), .int .u64 (bitsOf u.writes : Nat)] 89)).heap.size := by simp; omega
     have hc := ahead_deal u p hTu.1 hT.2 (wr.alloc (.cells #[.int .i64 u.bgn, .int .i64 u.com, .int .u64 (bitsOf u.reads : Nat), .int .u64 (bitsOf u.writes : Nat)] 89))
     unfold dealA at hc
     obtain ⟨e0, e1, e2, e3⟩ := kc3 KB.out
     clear KP hTu
     go_wp2_with (go_at_call 26; fail)
     refine hc.mono ?_
     rintro e w3 ⟨⟨r, rfl, hr⟩, hb3⟩
     replace RW := hid (RW.out.below hb3)
     replace KB := hid (KB.out.below hb3 hzp2)
     replace hzp2 : gp < w3.heap.size := Nat.lt_of_lt_of_le hzp2 hb3.size
     replace bwW : Below w.heap.size w w3 := bwW.trans (hb3.mono bwW.size)
     have HRA := hid (hr.trans HAI.out)
     clear hc hr hb3 e0 e1 e2 e3 d0 d1 d2 d3 HAI hbel hbs
     have hkw : k < ws.length := by rw [HW.out.1]; exact hlt
     have hsm := HW.out.small hkw
     rcases r with _ | _
     .have HW2 : Hid (Cnts us ws k (l + 1)) := HW.out.keep (Bool.eq_false_iff.2 (fun z => absurd (HRA.out.2 z) (by simp)))
      clear HW HRA hsm
      go_wp2
      go_roundw
      case rel => exact ⟨l + 1, ws, by omega, by go_num, RW, HW2, KB, hzp2, bwW⟩
      case measure => simp [intOf]; omega
     .have HW2 : Hid (Cnts us (ws.set k (ws[k] + 1)) k (l + 1)) := HW.out.step hkw (HRA.out.1 rfl)
      have hcw : w3.cell? ⟨gw, k, none⟩ = some (.int .i64 ws[k]) := RW.out.cell hkw
      have hfw : w3.frozen? ⟨gw, k, none⟩ = false := RW.out.frozen k
      have hwr : IntKind.i64.wrap (ws[k] + 1) = ws[k] + 1 := by simp only [IntKind.wrap_i64, wrap64]; omega
      have RW2 := hid (RW.out.set k (ws[k] + 1))
      have KB2 := hid (KB.out.other (c := gw) (j := k) (u := .int .i64 (ws[k] + 1)) (by omega))
      have bw2 := bwW.setCell (show w.heap.size <= (⟨gw, k, none⟩ : Addr).block by simp; omega) (.int .i64 (ws[k] + 1))
      have hwsn := HW.out.1
      have hsz2 : gp < (w3.setCell ⟨gw, k, none⟩ (.int .i64 (ws[k] + 1))).heap.size := by simpa using hzp2
      clear HW HRA hsm RW KB bwW
      generalize hxw : ws[k] = xw at hcw hwr HW2 RW2 KB2 bw2 hsz2
      clear hxw
      go_wp2
      go_roundw
      case rel => exact ⟨l + 1, _, by omega, by go_num, RW2, HW2, KB2, hsz2, bw2⟩
      case measure => simp [intOf]; omega
    .have hln : l = us.length := by omega
     subst hln
     have hlti2 : ¬ (us.length : Int) < us.length := by omega
     have HV := hid HW.out.next
     clear HW KP
     go_wp2
     go_roundw
     case rel => exact ⟨k + 1, ws, by omega, by go_num, RW, HV, hbel⟩
     case measure => simp [intOf]; omega
  .have hkn : k = us.length := by omega
   subst hkn
   have hlti : ¬ (us.length : Int) < us.length := by omega
   go_wp2
   go_ret
   first | exact ⟨gw, ws0, rfl, RW0.out, HW0.out, hbel⟩ | exact ⟨gw, rfl, ws0, RW0.out, HW0.out, hbel⟩
theorem indexOf_n (g c n : Nat) (ws : List Int) (b : Nat) (x : Int) (w : World) (hlen : ws.length = n) (hn : n <= 1000) (hr : IRow 3 b w g ws) :
 Calls Tryz.prog 25 #[.slice (some ⟨g, 0, none⟩) n c, .int .i64 x] w fun e w' => ((∃ k : Nat, ∃ hk : k < ws.length, e = .returned (.int .i64 (k : Int)) /\ ws[k] = x /\ ∀ j (hj : j < k), ws[j]'(by omega) ≠ x) \/ (e = .returned (.int .i64 (-1)) /\ ∀ j (hj : j < ws.length), ws[j] ≠ x)) /\ w' = w := by
 subst hlen
 exact indexOf_impl g c ws b x w hn hr
def Wts (us : List TI) (ws : List Int) (out out2 : List Nat) (j : Nat) : Prop := ws.length = us.length /\ ∀ l (h : l < ws.length), ws[l] = if l ∈ out2 then -1 else (cntL us (if l < j then remL us.length out2 else remL us.length out) l : Int)
theorem wts_start {us : List TI} {ws : List Int} (h : Cnts us ws us.length 0) : Wts us ws [] [] 0 := ⟨h.1, fun l hl => by
 have := h.2 l hl
 rw [if_pos (by have := h.1; omega)] at this
 rw [this, remL_nil]
 simp⟩
theorem Wts.next {us : List TI} {ws : List Int} {out out2 : List Nat} (h : Wts us ws out out2 us.length) : Wts us ws out2 out2 0 := ⟨h.1, fun l hl => by
 have := h.2 l hl
 rw [this]
 have : l < us.length := by have := h.1; omega
 simp [this]⟩
theorem Wts.take {us : List TI} {ws : List Int} {out : List Nat} (k : Nat) (h : Wts us ws out out 0) : Wts us (ws.set k (-1)) out (out ++ [k]) 0 := ⟨by rw [List.length_set]; exact h.1, fun l hl => by
 rw [List.length_set] at hl
 have := h.2 l hl
 by_cases e : l = k
 .subst e
  rw [List.getElem_set_self, if_pos (by simp)]
 .rw [List.getElem_set_ne (by omega), this]
  simp [e]⟩
theorem ahead_self (us : List TI) (k : Nat) : aheadB us k k = false := by
 unfold aheadB
 split <;> simp
theorem not_ahead {us : List TI} {out : List Nat} {k j : Nat} (hs : SerOut us (out ++ [k])) (hj : j ∈ out ++ [k]) : aheadB us k j = false := by
 rcases List.mem_append.1 hj with h | h
 .obtain ⟨m, hm, rfl⟩ := List.getElem_of_mem h
  exact (serOut_ok hs (m := m) (m' := out.length) hm (by rw [List.getElem?_append_left hm]; exact List.getElem?_eq_getElem hm) (by rw [List.getElem?_append_right (Nat.le_refl _)]; simp)).2
 .rw [List.mem_singleton] at h
  subst h
  exact ahead_self us j
theorem Wts.keep {us : List TI} {ws : List Int} {out : List Nat} {k j : Nat} (h : Wts us ws out (out ++ [k]) j) (hk : k ∈ remL us.length out) (ha : aheadB us k j = false) : Wts us ws out (out ++ [k]) (j + 1) := ⟨h.1, fun l hl => by
 have := h.2 l hl
 rw [this]
 by_cases e : l = j
 .subst e
  have hc := cntL_push (us := us) l hk
  rw [ha] at hc
  rw [if_neg (show ¬ l < l by omega), if_pos (show l < l + 1 by omega)]
  simp at hc
  rw [hc]
 .by_cases e2 : l < j
  .rw [if_pos e2, if_pos (show l < j + 1 by omega)]
  .rw [if_neg e2, if_neg (show ¬ l < j + 1 by omega)]⟩
theorem Wts.step {us : List TI} {ws : List Int} {out : List Nat} {k j : Nat} (h : Wts us ws out (out ++ [k]) j) (hj : j < ws.length) (hk : k ∈ remL us.length out) (hs : SerOut us (out ++ [k])) (ha : aheadB us k j = true) : Wts us (ws.set j (ws[j] - 1)) out (out ++ [k]) (j + 1) := ⟨by rw [List.length_set]; exact h.1, fun l hl => by
 rw [List.length_set] at hl
 have := h.2 l hl
 by_cases e : l = j
 .subst e
  have hn : l ∉ out ++ [k] := fun hm => by rw [not_ahead hs hm] at ha; cases ha
  have hc := cntL_push (us := us) l hk
  rw [ha] at hc
  rw [if_neg hn, if_neg (show ¬ l < l by omega)] at this
  rw [List.getElem_set_self, if_neg hn, if_pos (show l < l + 1 by omega), this]
  simp at hc
  omega
 .rw [List.getElem_set_ne (by omega), this]
  by_cases e2 : l < j
  .rw [if_pos e2, if_pos (show l < j + 1 by omega)]
  .rw [if_neg e2, if_neg (show ¬ l < j + 1 by omega)]⟩
theorem Wts.small {us : List TI} {ws : List Int} {out out2 : List Nat} {j : Nat} (h : Wts us ws out out2 j) {l : Nat} (hl : l < ws.length) : -1 <= ws[l] /\ ws[l] <= us.length := by
 have := h.2 l hl
 rw [this]
 split
 .omega
 .have h2 := cntL_le us (if l < j then remL us.length out2 else remL us.length out) l
  have h3 : (if l < j then remL us.length out2 else remL us.length out).length <= us.length := by split <;> exact remL_len _ _
  omega
theorem Wts.pick {us : List TI} {ws : List Int} {out : List Nat} {k : Nat} (h : Wts us ws out out 0) (hk : k < ws.length) (hz : ws[k] = 0) (hm : ∀ j (hj : j < k), ws[j]'(by omega) ≠ 0) : Pick us out k := by
 have h1 := h.2 k hk
 rw [hz] at h1
 have hno : k ∉ out := fun e => by rw [if_pos e] at h1; omega
 rw [if_neg hno, if_neg (Nat.not_lt_zero _)] at h1
 refine ⟨remL_mem.2 ⟨by rw [<- h.1]; exact hk, hno⟩, by omega, fun j hj hr hc => hm j hj ?_⟩
 have h2 := h.2 j (by omega)
 rw [if_neg (remL_mem.1 hr).2, if_neg (Nat.not_lt_zero _), hc] at h2
 exact h2
theorem Wts.none {us : List TI} {ws : List Int} {out : List Nat} (h : Wts us ws out out 0) (hm : ∀ j (hj : j < ws.length), ws[j] ≠ 0) : NoPick us out := fun j hr hc => by
 have hj : j < ws.length := by rw [h.1]; exact (remL_mem.1 hr).1
 have h2 := h.2 j hj
 rw [if_neg (remL_mem.1 hr).2, if_neg (Nat.not_lt_zero _), hc] at h2
 exact hm j hj h2
theorem OutRow.cap {ty b : Nat} {w : World} {out : List Nat} {oa : Option Addr} {oc : Nat} (h : OutRow ty b w (.slice oa out.length oc) out) : out.length <= oc := by
 obtain ⟨_, h2⟩ := h
 rcases h2 with ⟨e, h0⟩ | ⟨q, cap, cur, e, _, _, h3, _⟩
 .omega
 .simp only [Value.slice.injEq] at e
  omega
def SerPost3 (us : List TI) (w : World) (e : Ending) (w' : World) : Prop := ∃ (a : Option Addr) (n cap : Nat) (c : Int) (l : List Int), e = .returned (.tuple #[.slice a n cap, .int .i64 c]) /\ n <= cap /\ RSW 1 CI w.heap.size w' (.slice a n cap) l /\ SerC us l c /\ Below w.heap.size w w'
theorem serial_impl3 (a : Option Addr) (ca : Nat) (us : List TI) (w : World) (hb : BH 1048576 us) (ha : RS 4 CT 0 w (.slice a us.length ca) us) :
 Calls Tryz.prog 10 #[.slice a us.length ca] w fun e w' => SerPost3 us w e w' := by
 obtain ⟨i0, hi, hz0, hz1, hz2⟩ := info_parts info3
 have hn := hb.1
 have hp := past_impl a ca us w (by omega) hb.2 ha
 clear hb ha
 go_enter Tryz.func10, Tryz.ntmps10
 go_wp2_with (go_at_call 23; fail)
 refine hp.mono ?_
 rintro e w1 ⟨hP, bw1⟩
 clear hp
 rcases hP with ⟨hH, v5, rfl, hr5⟩ | ⟨hH, rfl⟩
 .have HH := hid hH
  have hn1 : us.length <= 1000 := hH.1
  obtain ⟨pa, pc, hv5, _⟩ := id hr5
  subst hv5
  have HR5 := hid hr5
  have hq := waits_impl pa pc us _ w1 hH hr5
  clear hH hr5
  go_wp2_with (go_at_call 24; fail)
  refine hq.mono ?_
  rintro e w2 ⟨gw, ws0, rfl, hrw, hcn, hb2⟩
  have RW0 := hid hrw
  have HW0 := hid (wts_start hcn)
  have hgw1 := hrw.lt.1
  have hgw2 := hrw.lt.2
  have hw1s := bw1.size
  clear hq hrw hcn
  obtain ⟨q, hqe⟩ : ∃ x, x = w2.heap.size := ⟨_, rfl⟩
  rw [<- hqe] at hgw2
  have OR0 : Hid (OutRow 3 q w2 (.slice none ([] : List Nat).length 0) []) := World.ownsRow_nil _ _ _ _
  have hq2 : q <= w2.heap.size := by omega
  clear hqe
  go_wp2
  go_loopw [7, 22] (fun v iv wr => ∃ (out : List Nat) (ws : List Int) (oa : Option Addr) (oc : Nat), out.length <= us.length /\ v = .slice oa out.length oc /\ iv = .int .i64 (out.length : Nat) /\ q <= wr.heap.size /\ Hid (OutRow 3 q wr (.slice oa out.length oc) out) /\ Hid (IRow 3 w1.heap.size wr gw ws) /\ Hid (Wts us ws out out 0) /\ Hid (SerOut us out) /\ Below w1.heap.size w1 wr) (fun _ iv _ => us.length - (intOf iv).toNat)
  case atStart => exact ⟨[], ws0, none, 0, Nat.zero_le _, rfl, rfl, hq2, OR0, RW0, HW0, serOut_nil us, hb2⟩
  case round =>
   clear OR0 RW0 HW0 hb2 hq2
   obtain ⟨out, ws, oa, oc, ho, rfl, rfl, hqw, HOR, RW, HW, HSO, hbel⟩ := hrel
   have hbs := hbel.size
   by_cases hlt : out.length < us.length
   .have hlti : (out.length : Int) < us.length := by omega
    have hix := indexOf_n gw us.length us.length ws _ 0 wr HW.out.1 hn1 RW.out
    go_wp2_with (go_at_call 25; fail)
    refine hix.mono ?_
    rintro e w' ⟨hI, hww⟩
    replace hww := hww.symm
    subst hww
    clear hix
    rcases hI with ⟨k, hk, rfl, hz, hm⟩ | ⟨rfl, hm⟩
    .have HPK := hid (HW.out.pick hk hz hm)
     have hku : k < us.length := by rw [<- HW.out.1]; exact hk
     have hkn : ¬ (k : Int) < 0 := by omega
     have hki : (k : Int) < us.length := by omega
     clear hz hm
     have hnew : (Value.slice oa out.length oc).ownBlock ≠ some gw := fun e => by have := World.ownsRow.lt HOR.out gw e; omega
     have HNW := hid hnew
     have hqW := HOR.out.lt
     clear hnew
     go_wp2_with (at_builtin; refine wpList_append_own _ rfl (.tmp 28) (.tmp 30) 32 rfl q 3 i0 (.int .i64 0) 1 8 Tryz.underlying32 hi hz0 hz1 hz2 rfl (by decide) _ _ _ rfl (World.ownsRow.alloc HOR.out _) ⟨wr.heap.size, 0, none⟩ 1 1 [.int .i64 (k : Int)] rfl rfl (blk_new wr [.int .i64 (k : Int)] 3).cells (by intro u hu; simp at hu; subst hu; rfl) (by unfold maxLen; omega) (by omega) (by simp; omega) ?_; intro v6 w6 hown6 hgrow6 hiff6; clear hiff6; have RW6 := hid ((RW.out.below (below_alloc wr (.cells #[.int .i64 (k : Int)] 3))).grown hgrow6 HNW.out); have hcw0 : w6.cell? ⟨gw, k, none⟩ = some (.int .i64 ws[k]) := RW6.out.cell hk; have hfw0 : w6.frozen? ⟨gw, k, none⟩ = false := RW6.out.frozen k)
     obtain ⟨out2, hout2⟩ : ∃ x, x = out ++ [k] := ⟨_, rfl⟩
     have HL2 : Hid (out2.length = out.length + 1) := hid (by rw [hout2]; simp)
     have HOR6 : Hid (OutRow 3 q w6 v6 out2) := hid (by rw [hout2]; unfold OutRow; rw [List.map_append, List.length_append]; exact hown6)
     have bw6 : Below w1.heap.size w1 w6 := (hbel.alloc hbs _).grown hgrow6 (by simp; omega) (fun j hj => by have := hqW j hj; omega)
     have hq6 : q <= w6.heap.size := Nat.le_trans (by simp; omega) hgrow6.size
     have HSO6 : Hid (SerOut us out2) := hid (by rw [hout2]; exact serOut_push HSO.out HPK.out)
     have HW6 : Hid (Wts us (ws.set k (-1)) out out2 0) := hid (by rw [hout2]; exact HW.out.take k)
     have HKR := hid HPK.out.1
     have HO2 := hid hout2
     obtain ⟨oa2, oc2, rfl⟩ := HOR6.out.form
     have RW7 := hid (RW6.out.set k (-1))
     have OR7 : Hid (OutRow 3 q (w6.setCell ⟨gw, k, none⟩ (.int .i64 (-1))) (.slice oa2 out2.length oc2) out2) := ownsRow_setCell_other HOR6.out (fun e => by have := World.ownsRow.lt HOR6.out gw e; omega) _
     have bw7 : Below w1.heap.size w1 (w6.setCell ⟨gw, k, none⟩ (.int .i64 (-1))) := bw6.setCell (show w1.heap.size <= (⟨gw, k, none⟩ : Addr).block by simp; omega) _
     have hq7 : q <= (w6.setCell ⟨gw, k, none⟩ (.int .i64 (-1))).heap.size := by simpa using hq6
     obtain ⟨g, o, rfl, _, hg, hgc⟩ := deal_at HR5.out (by omega)
     obtain ⟨hTp, c0, c1, c2, c3⟩ := hgc k hku
     have HGC := hid hgc
     have HD : Hid (us[k]? = some us[k]) := List.getElem?_eq_getElem hku
     have HF := hid (And.intro c0 (And.intro c1 (And.intro c2 c3)))
     clear hgc c0 c1 c2 c3 hown6 hgrow6 hout2 HPK HSO HW RW HOR HOR6 bw6 HNW hqW hbel hbs hq6 hcw0 hfw0
     generalize ws.set k (-1) = ws1 at RW7 HW6
     generalize us[k] = p at hTp HD HF
     clear RW6
     go_loopw [37] (fun jv wr => ∃ (l : Nat) (ws2 : List Int), l <= us.length /\ jv = .int .i64 l /\ q <= wr.heap.size /\ Hid (IRow 3 w1.heap.size wr gw ws2) /\ Hid (Wts us ws2 out out2 l) /\ Hid (OutRow 3 q wr (.slice oa2 out2.length oc2) out2) /\ Below w1.heap.size w1 wr) (fun jv _ => us.length - (intOf jv).toNat)
     case atStart => exact ⟨0, ws1, Nat.zero_le _, rfl, hq7, RW7, HW6, OR7, bw7⟩
     case round =>
      clear RW7 HW6 OR7 bw7 hq7
      obtain ⟨l, ws2, hl, rfl, hqw, RW, HW, HOR, hbel⟩ := hrel
      have hbs := hbel.size
      by_cases hlt2 : l < us.length
      .have hlti2 : (l : Int) < us.length := by omega
       obtain ⟨hTu, d0, d1, d2, d3⟩ := HGC.out l hlt2
       have HU : Hid (us[l]? = some us[l]) := List.getElem?_eq_getElem hlt2
       generalize us[l] = u at *
       replace d0 := (hbel.cell (p := ⟨g, o + l * 4, none⟩) hg).trans d0
       replace d1 := (hbel.cell (p := ⟨g, o + l * 4 + 1, none⟩) hg).trans d1
       replace d2 := (hbel.cell (p := ⟨g, o + l * 4 + 2, none⟩) hg).trans d2
       replace d3 := (hbel.cell (p := ⟨g, o + l * 4 + 3, none⟩) hg).trans d3
       have f0 : wr.cell? ⟨g, o + k * 4, none⟩ = some (.int .i64 p.bgn) := ct hbel hg HF.out.1
       have f1 : wr.cell? ⟨g, o + k * 4 + 1, none⟩ = some (.int .i64 p.com) := ct hbel hg HF.out.2.1
       have f2 : wr.cell? ⟨g, o + k * 4 + 2, none⟩ = some (.int .u64 (bitsOf p.reads : Nat)) := ct hbel hg HF.out.2.2.1
       have f3 : wr.cell? ⟨g, o + k * 4 + 3, none⟩ = some (.int .u64 (bitsOf p.writes : Nat)) := ct hbel hg HF.out.2.2.2
       have hgr : g < wr.heap.size := by omega
       have HAI := hid (ahead_iff HH.out HD.out HU.out)
       have hgwr : gw < wr.heap.size := RW.out.lt.2
       replace RW := hid (RW.out.below (below_alloc wr (.cells #[.int .i64 u.bgn, .int .i64 u.com, .int .u64 (bitsOf u.reads : Nat), .int .u64 (bitsOf u.writes : Nat)] 89)))
       replace HOR := hid (HOR.out.below (below_alloc wr (.cells #[.int .i64 u.bgn, .int .i64 u.com, .int .u64 (bitsOf u.reads : Nat), .int .u64 (bitsOf u.writes : Nat)] 89)))
       have bwW : Below w1.heap.size w1 (wr.alloc (.cells #[.int .i64 u.bgn, .int .i64 u.com, .int .u64 (bitsOf u.reads : Nat), .int .u64 (bitsOf u.writes : Nat)] 89)) := hbel.alloc hbs _
       have hqW : q <= (wr.alloc (.cells #[.int .i64 u.bgn, .int .i64 u.com, .int .u64 (bitsOf u.reads : Nat), .int .u64 (bitsOf u.writes : Nat)] 89)).heap.size := by simp; omega
       have hc := fun W => ahead_deal p u hTp.1 hTu.2 W
       unfold dealA at hc
       have HC := hid hc
       clear hc
       go_wp2
       go_region_with (go_at_call 26; refine (HC.out _).mono ?_; rintro e w3 ⟨⟨r, rfl, hr⟩, hb3⟩; replace hb3 := undrew hb3; replace RW := hid (RW.out.below hb3); replace HOR := hid (HOR.out.below hb3); replace bwW : Below w1.heap.size w1 w3 := bwW.trans (hb3.mono bwW.size); replace hqW : q <= w3.heap.size := Nat.le_trans hqW hb3.size; have HRA := hid (hr.trans HAI.out); clear hb3 hr)
       all_goals
        clear HC HAI d0 d1 d2 d3 f0 f1 f2 f3 hbel hbs
        have hgl : l < ws2.length := by rw [HW.out.1]; exact hlt2
        have hsm := HW.out.small hgl
        rcases r with _ | _
        .have HW2 : Hid (Wts us ws2 out out2 (l + 1)) := hid (by have h := HW.out; rw [HO2.out] at h ⊢; exact h.keep HKR.out (Bool.eq_false_iff.2 (fun z => absurd (HRA.out.2 z) (by simp))))
         clear HW HRA hsm
         go_wp2
         go_roundw
         case rel => exact ⟨l + 1, ws2, by omega, by go_num, hqW, RW, HW2, HOR, bwW⟩
         case measure => simp [intOf]; omega
        .have HW2 : Hid (Wts us (ws2.set l (ws2[l] - 1)) out out2 (l + 1)) := hid (by have h := HW.out; have hs := HSO6.out; rw [HO2.out] at h hs ⊢; exact h.step hgl HKR.out hs (HRA.out.1 rfl))
         have hcw : w3.cell? ⟨gw, l, none⟩ = some (.int .i64 ws2[l]) := RW.out.cell hgl
         have hfw : w3.frozen? ⟨gw, l, none⟩ = false := RW.out.frozen l
         have hwr : IntKind.i64.wrap (ws2[l] - 1) = ws2[l] - 1 := by simp only [IntKind.wrap_i64, wrap64]; omega
         have RW2 := hid (RW.out.set l (ws2[l] - 1))
         have OR2 : Hid (OutRow 3 q (w3.setCell ⟨gw, l, none⟩ (.int .i64 (ws2[l] - 1))) (.slice oa2 out2.length oc2) out2) := ownsRow_setCell_other HOR.out (fun e => by have := World.ownsRow.lt HOR.out gw e; omega) _
         have bw2 := bwW.setCell (show w1.heap.size <= (⟨gw, l, none⟩ : Addr).block by simp; omega) (.int .i64 (ws2[l] - 1))
         have hq2 : q <= (w3.setCell ⟨gw, l, none⟩ (.int .i64 (ws2[l] - 1))).heap.size := by simpa using hqW
         have hwsn := HW.out.1
         clear HW HRA hsm RW HOR bwW hqW
         generalize hxw : ws2[l] = xw at hcw hwr HW2 RW2 OR2 bw2 hq2
         clear hxw
         go_wp2
         go_roundw
         case rel => exact ⟨l + 1, _, by omega, by go_num, hq2, RW2, HW2, OR2, bw2⟩
         case measure => simp [intOf]; omega
      .have hln : l = us.length := by omega
       subst hln
       have hlti2 : ¬ (us.length : Int) < us.length := by omega
       have HV := hid HW.out.next
       have hl2 := HL2.out
       clear HW HL2
       go_wp2
       go_roundw
       case rel => exact ⟨out2, ws2, oa2, oc2, by omega, rfl, by first | go_num | (rw [hl2]; go_num), hqw, HOR, RW, HV, HSO6, hbel⟩
       case measure => simp [intOf]; omega
    .have HF : Hid (SerC us [] 21) := .inr (.inr ⟨HH.out, out, HSO.out, hlt, HW.out.none hm, rfl, rfl⟩)
     clear hm
     go_wp2
     refine bodyPost_ret (v := .tuple #[.slice none 0 0, .int .i64 21]) (by simp [results, Tryz.results10, go_sem]) rfl ⟨none, 0, 0, 21, [], rfl, Nat.le_refl _, ⟨_, _, rfl, fun h => absurd h (by simp)⟩, HF.out, bw1.trans (hbel.mono hw1s)⟩
   .have hle : out.length = us.length := by omega
    have hlti : ¬ (out.length : Int) < us.length := by omega
    have HF : Hid (SerC us (out.map Int.ofNat) 0) := .inr (.inl ⟨HH.out, out, HSO.out, hle, rfl, rfl⟩)
    have HRW := hid (HOR.out.rsw.mono liesI (show w.heap.size <= q by omega))
    have HCA := hid HOR.out.cap
    go_wp2
    refine bodyPost_ret (v := .tuple #[.slice oa out.length oc, .int .i64 0]) (by simp [results, Tryz.results10, go_sem, hle]) rfl ⟨oa, out.length, oc, 0, _, rfl, HCA.out, HRW.out, HF.out, bw1.trans (hbel.mono hw1s)⟩
 .have HF : Hid (SerC us [] 1) := .inl ⟨hH, rfl, rfl⟩
  clear hH
  go_wp2
  refine bodyPost_ret (v := .tuple #[.slice none 0 0, .int .i64 1]) (by simp [results, Tryz.results10, go_sem]) rfl ⟨none, 0, 0, 1, [], rfl, Nat.le_refl _, ⟨_, _, rfl, fun h => absurd h (by simp)⟩, HF.out, bw1⟩
theorem Mem.putc {B bb gx : Nat} {w : World} {x : Bas} {cv hv : Value} {vs : List (Value × Value × Value)} (h : Mem B bb gx w x cv hv vs) {i j : Nat} (hi : i < 4) (hj : j < 6) {t t' : Txn} {v v' : Value × Value × Value} {u : Value} (htx : x.tx[i]? = some t) (hvx : vs[i]? = some v) (hset : txV t' v' = (txV t v).set j u) (htm : TxM B w t' v') (hv2 : v'.2.1 = v.2.1) :
 Mem B bb gx (w.setCell ⟨gx, i * 6 + j, none⟩ u) { x with tx := x.tx.set i t' } cv hv (vs.set i v') /\ Chg (fun ty => ty = 70) w (w.setCell ⟨gx, i * 6 + j, none⟩ u) := by
 have hk : Chg (fun ty => ty = 70) w (w.setCell ⟨gx, i * 6 + j, none⟩ u) := Chg.set _ rfl h.xt
 have h1 : i < x.tx.length := by rw [h.n]; exact hi
 have h2 : i < vs.length := by rw [h.m]; exact hi
 have ht : x.tx[i] = t := by rw [List.getElem?_eq_getElem h1] at htx; exact Option.some.inj htx
 have hv : vs[i] = v := by rw [List.getElem?_eq_getElem h2] at hvx; exact Option.some.inj hvx
 have hsame : ∀ k (hk : k < vs.length), ((vs.set i v')[k]'(by simpa using hk)).2.1 = vs[k].2.1 := by
  intro k hk
  by_cases e : k = i
  .subst e
   rw [List.getElem_set_self, hv2, hv]
  .rw [List.getElem_set_ne (fun z => e z.symm)]
 refine ⟨⟨by simpa using h.n, by simpa using h.m, h.bs.chg hk (by decide) h.bt, hk.tagk (by decide) h.bt, h.bB, ?_, tag_set _ h.xt, h.xB, fun k hk1 hk2 => ?_, fun k l hk1 hl1 hn g hg => ?_, h.cm.chg hk (by decide) (by decide), h.hi.chg hk (by decide) (by decide)⟩, hk⟩
 .have := h.xs.set (i := i) (j := j) (by rw [List.length_zipWith, h.n, h.m]; omega) hj u
  rw [List.getElem_zipWith, ht, hv, <- hset, zip_set] at this
  exact this
 .by_cases e : k = i
  .subst e
   simp only [List.getElem_set_self]
   exact htm.chg hk (by decide) (by decide) (by decide)
  .have e' : i ≠ k := fun z => e z.symm
   simp only [List.getElem_set_ne e']
   simp at hk1 hk2
   exact (h.tm k hk1 hk2).chg hk (by decide) (by decide) (by decide)
 .have hk3 : k < vs.length := by simpa using hk1
  have hl3 : l < vs.length := by simpa using hl1
  rw [hsame k hk3] at hg
  rw [hsame l hl3]
  exact h.ds k l hk3 hl3 hn g hg
def sv0 : Sav := ⟨⟨#[]⟩, []⟩
def savesF (x : Bas) (i : Nat) (o : Opn) : Bas × Int :=
 let t := x.tx.getD i tx0
 if o.kd = 8 then (if 8 <= t.sv.length then (x, 5) else ({ x with tx := x.tx.set i { t with sv := t.sv ++ [⟨o.nm, t.own⟩] } }, 0))
 else match savedF t.sv o.nm with
  | none => (x, 23)
  | some k => if o.kd = 9 then ({ x with tx := x.tx.set i { t with own := (t.sv.getD k sv0).cs, sv := t.sv.take (k + 1) } }, 0) else ({ x with tx := x.tx.set i { t with sv := t.sv.take k } }, 0)
def SavesP (B bb gx : Nat) (x : Bas) (i : Nat) (o : Opn) (w : World) (e : Ending) (w' : World) : Prop := ∃ cv hv vs, e = .returned (.int .i64 (savesF x i o).2) /\ Mem B bb gx w' (savesF x i o).1 cv hv vs /\ Keep w w' /\ Below B w w'
def CSp (B : Nat) (w : World) (cs : List Value) (p : Sav × Value) : Prop := cs = [.string p.1.nm, p.2] /\ ∃ a n c, p.2 = .slice a n c
theorem liesSp : Lies 2 CSp := ⟨fun h => by rw [h.1]; rfl, fun h _ => h, fun h _ => h, fun h _ => h⟩
theorem oneSp : ∀ {B : Nat} {w : World} {cs : List Value} {p : Sav × Value}, CSp B w cs p -> ∀ u ∈ cs, u.oneCell' = true := fun h u hu => by
 obtain ⟨rfl, a, n, c, e⟩ := h
 simp at hu
 rcases hu with rfl | rfl
 .rfl
 .rw [e]; rfl
theorem TL.flat {w : World} {v : Value} {ss : List Sav} (h : TL 146 2 CSt w v ss) : ∃ ps : List (Sav × Value), ps.map Prod.fst = ss /\ RS 2 CSp 0 w v ps /\ ∀ p ∈ ps, TL 106 4 CC w p.2 p.1.cs := by
 obtain ⟨⟨a, c, he, hh⟩, ht⟩ := h
 rcases Nat.eq_zero_or_pos ss.length with h0 | hp
 .have : ss = [] := List.length_eq_zero_iff.1 h0
  subst this
  exact ⟨[], rfl, ⟨a, c, he, fun z => absurd z (by simp)⟩, fun p hp => by simp at hp⟩
 .obtain ⟨g, o, e2, h1, h2, h3⟩ := hh hp
  have key : ∀ i : Fin ss.length, ∃ cv, TL 106 4 CC w cv ss[i].cs /\ ∀ j, j < 2 -> w.cell? ⟨g, o + i.1 * 2 + j, none⟩ = ([.string ss[i].nm, cv] : List Value)[j]? := by
   intro i
   obtain ⟨cs, ⟨cv, e, t⟩, y⟩ := h3 i.1 i.2
   subst e
   exact ⟨cv, t, y⟩
  refine ⟨List.ofFn (fun i : Fin ss.length => (ss[i], Classical.choose (key i))), ?_, ⟨a, c, ?_, fun _ => ⟨g, o, e2, h1, h2, fun i hi => ?_⟩⟩, fun p hp => ?_⟩
  .apply List.ext_getElem
   .simp
   .intro i _ _; simp
  .rw [he]; simp
  .have hi' : i < ss.length := by simpa using hi
   have k := Classical.choose_spec (key ⟨i, hi'⟩)
   refine ⟨[.string ss[i].nm, Classical.choose (key ⟨i, hi'⟩)], ⟨by simp, ?_⟩, fun j hj => k.2 j hj⟩
   obtain ⟨a', c', e'⟩ := k.1.form
   exact ⟨a', _, c', by rw [List.getElem_ofFn]; exact e'⟩
  .rw [List.mem_ofFn] at hp
   obtain ⟨i, rfl⟩ := hp
   exact (Classical.choose_spec (key i)).1
theorem sav_tl {w : World} {b : Nat} {v : Value} {ps : List (Sav × Value)} {xs : List Value} (hf : Fill 2 CSp 0 ps ps.length xs w) (ho : w.ownsRow b 146 2 v ps.length xs) (ht : ∀ p ∈ ps, TL 106 4 CC w p.2 p.1.cs) : TL 146 2 CSt w v (ps.map Prod.fst) := by
 refine ⟨?_, fun g o n c hv hp => own_tag ho (by rw [hv]; rfl)⟩
 obtain ⟨a, c, he, hh⟩ := hf.own liesSp (own_base0 ho) (Nat.le_refl _)
 refine ⟨a, c, by rw [List.length_map]; exact he, fun hp => ?_⟩
 obtain ⟨g, o, e2, h1, h2, h3⟩ := hh (by simpa using hp)
 refine ⟨g, o, e2, h1, h2, fun i hi => ?_⟩
 have hi' : i < ps.length := by simpa using hi
 obtain ⟨cs, ⟨e, _⟩, y⟩ := h3 i hi'
 exact ⟨cs, ⟨ps[i].2, by rw [List.getElem_map]; exact e, by rw [List.getElem_map]; exact ht ps[i] (List.getElem_mem hi')⟩, y⟩
theorem cel_tl {w : World} {b : Nat} {v : Value} {cs : List Cel} {xs : List Value} (hf : Fill 4 CC 0 cs cs.length xs w) (ho : w.ownsRow b 106 4 v cs.length xs) : TL 106 4 CC w v cs :=
 ⟨hf.own liesC (own_base0 ho) (Nat.le_refl _), fun g o n c hv hp => own_tag ho (by rw [hv]; rfl)⟩
theorem infoSa : (Tryz.prog.info? 146).map (fun i => (i.zero, i.size, i.bytes)) = some (some (.agg #[.string ⟨#[]⟩, .slice none 0 0]), 2, 40) := by kernel_rfl
def SvB (W wx : World) (nm : ByteArray) (own : List Cel) (s : Value) : Prop := ∃ (bx : Nat) (a : Option Addr) (c : Nat), s = .pointer (some ⟨bx, 0, none⟩) /\ Blk wx bx [.string nm, .slice a own.length c] /\ TL 106 4 CC wx (.slice a own.length c) own /\ Below W.heap.size W wx /\ bx < wx.heap.size /\ W.heap.size <= bx
theorem svA {W w8 : World} {nm : ByteArray} {own : List Cel} {a : Option Addr} {c : Nat} (hb : Below W.heap.size W w8) (h : TL 106 4 CC w8 (.slice a own.length c) own) : SvB W (w8.alloc (.cells #[.string nm, .slice a own.length c] 146)) nm own (.pointer (some ⟨w8.heap.size, 0, none⟩)) := by
 have hk : Chg (fun _ => False) w8 (w8.alloc (.cells #[.string nm, .slice a own.length c] 146)) := Chg.of_below _ (below_alloc _ _)
 exact ⟨_, a, c, rfl, blk_new w8 _ _, h.chg (fun z => z) hk (fun h => h), hb.alloc hb.size _, by simp, hb.size⟩
theorem svB {W w8 : World} {nm : ByteArray} {own : List Cel} {a : Option Addr} {c bx : Nat} {u0 u1 : Value} (hb : Below W.heap.size W w8) (h : TL 106 4 CC w8 (.slice a own.length c) own) (hk : Blk w8 bx [u0, u1]) (ht : tag w8 bx 146) (hx : W.heap.size <= bx) : SvB W ((w8.setCell ⟨bx, 0, none⟩ (.string nm)).setCell ⟨bx, 1, none⟩ (.slice a own.length c)) nm own (.pointer (some ⟨bx, 0, none⟩)) := by
 have hc : Chg (fun ty => ty = 146) w8 ((w8.setCell ⟨bx, 0, none⟩ (.string nm)).setCell ⟨bx, 1, none⟩ (.slice a own.length c)) := (Chg.set (T := fun ty => ty = 146) _ rfl ht).trans (Chg.set _ rfl (tag_set _ ht))
 have e := tag_lt ht
 exact ⟨_, a, c, rfl, (hk.set 0 (.string nm)).set 1 (.slice a own.length c), h.chg (by decide) hc (fun h => h), (hb.setCell (p := ⟨bx, 0, none⟩) hx _).setCell (p := ⟨bx, 1, none⟩) hx _, by simpa using e, hx⟩
theorem own_cap {w : World} {b e k n : Nat} {v : Value} {xs : List Value} (h : w.ownsRow b e k v n xs) : ∀ a n c, v = .slice a n c -> n <= c := fun a n' c hv => by
 obtain ⟨_, h2⟩ := h
 rcases h2 with ⟨rfl, _⟩ | ⟨g, cap, cur, rfl, _, _, hc, _⟩
 .injection hv with _ h1 h2; omega
 .injection hv with _ h1 h2; omega
end Go.Proofs.YtblkgicbimflhaaGreat
