import Derived.Test.YtjpcgnkgdaphoaaDoorM1
namespace Go.Proofs.YtjpcgnkgdaphoaaDoor
set_option linter.unusedVariables false
theorem unq_len (q : UInt8) : ∀ (l : List UInt8) (x : List UInt8) (n : Nat), unq q l = some (x, n) → x.length + 1 ≤ n ∧ n ≤ l.length
  | [], x, n, h => by simp [unq] at h
  | [c], x, n, h => by
    unfold unq at h
    split at h
    · simp at h; obtain ⟨rfl, rfl⟩ := h; simp
    · simp at h
  | c :: d :: t, x, n, h => by
    unfold unq at h
    split at h
    · split at h
      · cases hu : unq q t with
        | none => simp [hu] at h
        | some y =>
          have := unq_len q t y.1 y.2 (by simpa using hu)
          simp [hu] at h
          obtain ⟨rfl, rfl⟩ := h
          simp; omega
      · simp at h; obtain ⟨rfl, rfl⟩ := h; simp
    · cases hu : unq q (d :: t) with
      | none => simp [hu] at h
      | some y =>
        have := unq_len q (d :: t) y.1 y.2 (by simpa using hu)
        simp [hu] at h
        obtain ⟨rfl, rfl⟩ := h
        simp at this ⊢; omega
/-- The loop behind 'unq': so far read, place. -/
def UnqI (q : UInt8) (l : List UInt8) (i : Nat) (out : List UInt8) : Prop := unq q (l.drop 1) = (unq q (l.drop i)).map (fun x => (out ++ x.1, i - 1 + x.2))
theorem UnqI.zero (q : UInt8) (l : List UInt8) : UnqI q l 1 [] := by unfold UnqI; simp
theorem drop_cons (l : List UInt8) (i : Nat) (c : UInt8) (h : l[i]? = some c) : l.drop i = c :: l.drop (i + 1) := by
  obtain ⟨hi, e⟩ := List.getElem?_eq_some_iff.1 h
  rw [List.drop_eq_getElem_cons hi, e]
theorem drop_nil (l : List UInt8) (i : Nat) (h : l[i]? = none) : l.drop i = [] := List.drop_eq_nil_of_le (List.getElem?_eq_none_iff.1 h)
theorem unq_other (q c : UInt8) (t : List UInt8) (h : c ≠ q) : unq q (c :: t) = (unq q t).map (fun x => (c :: x.1, x.2 + 1)) := by
  cases t with
  | nil => simp [unq, h]
  | cons d t => rw [unq]; simp [h]
theorem UnqI.other {q c : UInt8} {l out : List UInt8} {i : Nat} (h : UnqI q l i out) (hi : 1 ≤ i) (e : l[i]? = some c) (hc : c ≠ q) : UnqI q l (i + 1) (out ++ [c]) := by
  unfold UnqI at h ⊢
  rw [h, drop_cons l i c e, unq_other q c _ hc]
  cases unq q (l.drop (i + 1)) with
  | none => rfl
  | some x => simp; omega
theorem UnqI.twice {q : UInt8} {l out : List UInt8} {i : Nat} (h : UnqI q l i out) (hi : 1 ≤ i) (e : l[i]? = some q) (e2 : l[i + 1]? = some q) : UnqI q l (i + 1 + 1) (out ++ [q]) := by
  unfold UnqI at h ⊢
  rw [h, drop_cons l i q e, drop_cons l (i + 1) q e2]
  rw [unq]
  simp only [if_true]
  cases unq q (l.drop (i + 1 + 1)) with
  | none => rfl
  | some x => simp; omega
theorem UnqI.done {q : UInt8} {l out : List UInt8} {i : Nat} (h : UnqI q l i out) (hi : 1 ≤ i) (e : l[i]? = some q) (e2 : l[i + 1]? ≠ some q) : unq q (l.drop 1) = some (out, i) := by
  unfold UnqI at h
  rw [h, drop_cons l i q e]
  cases g : l[i + 1]? with
  | none => rw [drop_nil l (i + 1) g]; simp [unq]; omega
  | some d =>
    rw [drop_cons l (i + 1) d g, unq]
    have : d ≠ q := fun x => e2 (by rw [g, x])
    simp [this]; omega
theorem UnqI.none {q : UInt8} {l out : List UInt8} {i : Nat} (h : UnqI q l i out) (e : l.length ≤ i) : unq q (l.drop 1) = none := by
  unfold UnqI at h
  rw [h, List.drop_eq_nil_of_le e]; simp [unq]
theorem noughts_step (c : UInt8) (t : List UInt8) : noughts (48 :: c :: t) = noughts (c :: t) := by
  unfold noughts
  have : runN nulI (48 :: c :: t) = runN nulI (c :: t) + 1 := by rw [runN]; simp [nulI]
  rw [this]
  have h := runN_le nulI (c :: t)
  simp only [List.length_cons] at h ⊢
  have e : min (runN nulI (c :: t) + 1) (t.length + 1 + 1 - 1) = min (runN nulI (c :: t)) (t.length + 1 - 1) + 1 := by omega
  rw [e, List.drop_succ_cons]
theorem noughts_stop (c : UInt8) (t : List UInt8) (h : c ≠ 48) : noughts (c :: t) = c :: t := by
  unfold noughts
  have : runN nulI (c :: t) = 0 := by
    rw [runN, if_neg]; simp [nulI]; intro x; exact h (UInt8.toNat.inj (show c.toNat = 48 by omega))
  rw [this]; simp
theorem noughts_one (c : UInt8) : noughts [c] = [c] := by unfold noughts; simp
theorem noughts_nil : noughts [] = [] := by unfold noughts; simp
theorem noughts_len (l : List UInt8) : (noughts l).length ≤ l.length ∧ (1 ≤ l.length → 1 ≤ (noughts l).length) := by
  unfold noughts; rw [List.length_drop]; omega
abbrev Tok := Int × List UInt8 × Nat
inductive LexRes where
  | ok (l : List Tok)
  | err (code : Int) (pos : Nat)
def blank (c : UInt8) : Bool := decide (c = 32) || decide (c = 9) || decide (c = 10) || decide (c = 13)
def cmtAt (l : List UInt8) (k : Nat) : Bool := decide (l[k]? = some 45) && decide (l[k + 1]? = some 45)
def nlI (b : Int) : Bool := !decide (b = 10)
inductive LexR (l : List UInt8) : Nat → List Tok → LexRes → Prop
  | fin {k : Nat} {acc : List Tok} (h : l.length ≤ k) : LexR l k acc (.ok acc)
  | blank {k : Nat} {acc : List Tok} {r : LexRes} {c : UInt8} (h : l[k]? = some c) (hb : blank c = true) (nx : LexR l (k + 1) acc r) : LexR l k acc r
  | cmt {k : Nat} {acc : List Tok} {r : LexRes} (hc : cmtAt l k = true) (nx : LexR l (k + runN nlI (l.drop k)) acc r) : LexR l k acc r
  | many {k : Nat} {acc : List Tok} {c : UInt8} (h : l[k]? = some c) (hb : Go.Proofs.YtjpcgnkgdaphoaaDoor.blank c = false) (hc : cmtAt l k = false) (hm : acc.length = 2000) : LexR l k acc (.err 5 k)
  | bad {k : Nat} {acc : List Tok} {c : UInt8} {e : Int} {f : Nat} (h : l[k]? = some c) (hb : Go.Proofs.YtjpcgnkgdaphoaaDoor.blank c = false) (hc : cmtAt l k = false) (hm : acc.length ≠ 2000) (hk : cutL (l.drop k) = .err e f) : LexR l k acc (.err e (k + f))
  | tok {k : Nat} {acc : List Tok} {c : UInt8} {r : LexRes} {t : Int} {x : List UInt8} {n : Nat} (h : l[k]? = some c) (hb : Go.Proofs.YtjpcgnkgdaphoaaDoor.blank c = false) (hc : cmtAt l k = false) (hm : acc.length ≠ 2000) (hk : cutL (l.drop k) = .tok t x n) (nx : LexR l (k + n) (acc ++ [(t, x, k)]) r) : LexR l k acc r
theorem get_of_cmt {l : List UInt8} {k : Nat} (h : cmtAt l k = true) : l[k]? = some 45 := by
  unfold cmtAt at h; simp at h; exact h.1
theorem get_lt {l : List UInt8} {k : Nat} {c : UInt8} (h : l[k]? = some c) : k < l.length := (List.getElem?_eq_some_iff.1 h).1
theorem LexR.det {l : List UInt8} {k : Nat} {acc : List Tok} {r r' : LexRes} (h : LexR l k acc r) (h' : LexR l k acc r') : r = r' := by
  induction h with
  | fin h =>
    cases h' with
    | fin _ => rfl
    | cmt hc _ => have := get_lt (get_of_cmt hc); omega
    | blank g _ _ => have := get_lt g; omega
    | many g _ _ _ => have := get_lt g; omega
    | bad g _ _ _ _ => have := get_lt g; omega
    | tok g _ _ _ _ _ => have := get_lt g; omega
  | blank h hb nx ih =>
    cases h' with
    | fin g => have := get_lt h; omega
    | cmt hc _ => have := get_of_cmt hc; rw [h] at this; cases this; exact absurd hb (by decide)
    | blank g _ n2 => exact ih n2
    | many g gb _ _ => rw [h] at g; cases g; rw [hb] at gb; cases gb
    | bad g gb _ _ _ => rw [h] at g; cases g; rw [hb] at gb; cases gb
    | tok g gb _ _ _ _ => rw [h] at g; cases g; rw [hb] at gb; cases gb
  | cmt hc nx ih =>
    cases h' with
    | fin g => have := get_lt (get_of_cmt hc); omega
    | cmt _ n2 => exact ih n2
    | blank g gb _ => have := get_of_cmt hc; rw [g] at this; cases this; exact absurd gb (by decide)
    | many g gb gc _ => rw [hc] at gc; cases gc
    | bad g gb gc _ _ => rw [hc] at gc; cases gc
    | tok g gb gc _ _ _ => rw [hc] at gc; cases gc
  | many h hb hc hm =>
    cases h' with
    | fin g => have := get_lt h; omega
    | cmt gc _ => rw [hc] at gc; cases gc
    | blank g gb _ => rw [h] at g; cases g; rw [hb] at gb; cases gb
    | many _ _ _ _ => rfl
    | bad _ _ _ gm _ => exact absurd hm gm
    | tok _ _ _ gm _ _ => exact absurd hm gm
  | bad h hb hc hm hk =>
    cases h' with
    | fin g => have := get_lt h; omega
    | cmt gc _ => rw [hc] at gc; cases gc
    | blank g gb _ => rw [h] at g; cases g; rw [hb] at gb; cases gb
    | many _ _ _ gm => exact absurd gm hm
    | bad _ _ _ _ gk => rw [hk] at gk; cases gk; rfl
    | tok _ _ _ _ gk _ => rw [hk] at gk; cases gk
  | tok h hb hc hm hk nx ih =>
    cases h' with
    | fin g => have := get_lt h; omega
    | cmt gc _ => rw [hc] at gc; cases gc
    | blank g gb _ => rw [h] at g; cases g; rw [hb] at gb; cases gb
    | many _ _ _ gm => exact absurd gm hm
    | bad _ _ _ _ gk => rw [hk] at gk; cases gk
    | tok _ _ _ _ gk n2 => rw [hk] at gk; cases gk; exact ih n2
theorem runN_pos (p : Int → Bool) (c : UInt8) (t : List UInt8) (h : p (c.toNat : Int) = true) : 1 ≤ runN p (c :: t) := by rw [runN, if_pos h]; omega
theorem sigAt_len {l g : List UInt8} (h : sigAt l = some g) : 1 ≤ g.length ∧ g.length ≤ l.length := by
  unfold sigAt at h
  have h1 := List.mem_of_find?_eq_some h
  have h2 := List.find?_some h
  have h3 : g.length ≤ l.length := by
    obtain ⟨t, e⟩ := List.isPrefixOf_iff_prefix.1 h2
    rw [← e]; simp
  refine ⟨?_, h3⟩
  unfold signs at h1
  simp only [List.mem_cons, List.not_mem_nil, or_false] at h1
  rcases h1 with h1 | h1 | h1 | h1 | h1 | h1 | h1 | h1 | h1 | h1 | h1 | h1 | h1 | h1 | h1 | h1 | h1 | h1 <;> (subst h1; decide)
theorem afterN_tok {l x y : List UInt8} {k t : Int} {n m : Nat} (h : afterN l k x n = .tok t y m) : t = k ∧ y = x ∧ m = n := by
  unfold afterN at h; split at h
  · cases h
  · cases h; exact ⟨rfl, rfl, rfl⟩
theorem cut_size {l x : List UInt8} {k : Int} {n : Nat} (h : cutL l = .tok k x n) : 1 ≤ n ∧ n ≤ l.length := by
  cases l with
  | nil => cases h
  | cons c t =>
    unfold cutL at h
    simp only at h
    split at h
    · rename_i hw
      have h1 := runN_pos goI c t (by unfold goI; rw [hw]; rfl)
      have h2 := runN_le goI (c :: t)
      unfold wordL at h; split at h
      · cases h
      · cases h; exact ⟨h1, h2⟩
    · split at h
      · rename_i hw
        have h1 := runN_pos digI c t hw
        have h2 := runN_le digI (c :: t)
        unfold numL at h; split at h
        · rename_i hd
          split at h
          · cases h
          · obtain ⟨_, _, rfl⟩ := afterN_tok h
            unfold decAt at hd
            simp only [Bool.and_eq_true] at hd
            cases hg : (c :: t)[runN digI (c :: t) + 1]? with
            | none => rw [hg] at hd; exact absurd hd.2 (by decide)
            | some d =>
              have := get_lt hg
              have h3 := runN_le digI ((c :: t).drop (runN digI (c :: t) + 1))
              rw [List.length_drop] at h3
              omega
        · split at h
          · cases h
          · obtain ⟨_, _, rfl⟩ := afterN_tok h
            exact ⟨h1, h2⟩
      · split at h
        · unfold quoL at h; split at h
          · cases h
          · rename_i y hy
            have := unq_len 34 _ y.1 y.2 hy
            rw [List.length_drop] at this
            split at h
            · cases h
            · split at h
              · cases h
              · cases h; simp at this ⊢; omega
        · split at h
          · unfold strL at h; split at h
            · cases h
            · rename_i y hy
              have := unq_len 39 _ y.1 y.2 hy
              rw [List.length_drop] at this
              split at h
              · cases h
              · split at h
                · cases h
                · cases h; simp at this ⊢; omega
          · unfold sigL at h; split at h
            · cases h
            · rename_i g hg
              cases h
              exact sigAt_len hg
end Go.Proofs.YtjpcgnkgdaphoaaDoor
