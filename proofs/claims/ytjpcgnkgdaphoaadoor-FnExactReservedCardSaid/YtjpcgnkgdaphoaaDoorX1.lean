import Derived.Test.YtjpcgnkgdaphoaaDoorV7
import Derived.Test.YtjpcgnkgdaphoaaDoorM7
import Derived.OneCell
namespace Go.Proofs.YtjpcgnkgdaphoaaDoor
open Go.ChangeShapes Go.WideShapes Go.ChangeAt Go.RowKit Go.Shelf
set_option linter.unusedVariables false
set_option linter.unusedSimpArgs false
set_option maxRecDepth 100000
theorem afterN_err {l x : List UInt8} {k c : Int} {n f : Nat} (h : afterN l k x n = .err c f) : c = 2 ∧ f = n := by
  unfold afterN at h; split at h
  · cases h; exact ⟨rfl, rfl⟩
  · cases h
theorem cut_err {l : List UInt8} {c : Int} {f : Nat} (h : cutL l = .err c f) : (c = 2 ∨ c = 5) ∧ f ≤ l.length := by
  cases l with
  | nil => cases h; exact ⟨.inl rfl, Nat.le_refl _⟩
  | cons d t =>
    unfold cutL at h
    simp only at h
    split at h
    · unfold wordL at h; split at h
      · cases h; exact ⟨.inr rfl, Nat.zero_le _⟩
      · cases h
    · split at h
      · have h2 := runN_le digI (d :: t)
        unfold numL at h; split at h
        · rename_i hd
          split at h
          · cases h; exact ⟨.inr rfl, Nat.zero_le _⟩
          · obtain ⟨rfl, rfl⟩ := afterN_err h
            unfold decAt at hd
            simp only [Bool.and_eq_true] at hd
            cases hg : (d :: t)[runN digI (d :: t) + 1]? with
            | none => rw [hg] at hd; exact absurd hd.2 (by decide)
            | some d' =>
              have := get_lt hg
              have h3 := runN_le digI ((d :: t).drop (runN digI (d :: t) + 1))
              rw [List.length_drop] at h3
              exact ⟨.inl rfl, by omega⟩
        · split at h
          · cases h; exact ⟨.inr rfl, Nat.zero_le _⟩
          · obtain ⟨rfl, rfl⟩ := afterN_err h
            exact ⟨.inl rfl, h2⟩
      · split at h
        · unfold quoL at h; repeat' split at h
          all_goals first | (cases h; exact ⟨.inl rfl, Nat.zero_le _⟩) | (cases h; exact ⟨.inr rfl, Nat.zero_le _⟩) | (cases h; done)
        · split at h
          · unfold strL at h; repeat' split at h
            all_goals first | (cases h; exact ⟨.inl rfl, Nat.zero_le _⟩) | (cases h; exact ⟨.inr rfl, Nat.zero_le _⟩) | (cases h; done)
          · unfold sigL at h; split at h
            · cases h; exact ⟨.inl rfl, Nat.zero_le _⟩
            · cases h
theorem own_below {w w' : World} {b e k n : Nat} {v : Value} {xs : List Value} (h : w.ownsRow b e k v n xs) (hb : Below w.heap.size w w') : w'.ownsRow b e k v n xs := by
  have hl := h.lt
  obtain ⟨h1, h2⟩ := h
  refine ⟨h1, ?_⟩
  rcases h2 with h2 | ⟨g, cap, cur, rfl, hg1, hg2, hg3⟩
  · exact .inl h2
  · exact .inr ⟨g, cap, cur, rfl, hg1, (hb.block g (hl g rfl).2).trans hg2, hg3⟩
theorem owns_slice {w : World} {base e size n : Nat} {v : Value} {xs : List Value} (h : w.ownsRow base e size v n xs) : ∃ a cap, v = .slice a n cap := by
  rcases h.2 with ⟨rfl, rfl⟩ | ⟨g, cap, cur, rfl, _⟩
  · exact ⟨_, _, rfl⟩
  · exact ⟨_, _, rfl⟩
def tcells (l : List Tok) : List Value := l.flatMap fun t => [.int .i64 t.1, .string ⟨t.2.1.toArray⟩, .int .i64 (t.2.2 : Int)]
theorem tcells_snoc (l : List Tok) (k : Int) (x : List UInt8) (p : Nat) : tcells (l ++ [(k, x, p)]) = tcells l ++ [.int .i64 k, .string ⟨x.toArray⟩, .int .i64 (p : Int)] := by simp [tcells]
theorem info47 : (Tryd.prog.info? 35).map (fun i => (i.zero, i.size, i.bytes)) = some (some (.agg #[.int .i64 0, .string ⟨#[]⟩, .int .i64 0]), 3, 32) := by kernel_rfl
/-- What Lex answers: the tokens in memory of its own, or a code and a place. -/
def LexPost (s : ByteArray) (w : World) (e : Ending) (w' : World) : Prop :=
  ∃ r, LexR s.data.toList 0 [] r ∧ (match r with
    | .ok ts => ∃ v, e = .returned (.tuple #[v, .int .i64 0, .int .i64 0]) ∧ w'.ownsRow w.heap.size 35 3 v ts.length (tcells ts)
    | .err c p => e = .returned (.tuple #[.slice none 0 0, .int .i64 c, .int .i64 (p : Int)])) ∧ Below w.heap.size w w'
theorem LexPost.ok {s : ByteArray} {w w' : World} {ts : List Tok} {v : Value} (h : LexR s.data.toList 0 [] (.ok ts)) (ho : w'.ownsRow w.heap.size 35 3 v ts.length (tcells ts)) (hb : Below w.heap.size w w') :
    LexPost s w (.returned (.tuple #[v, .int .i64 0, .int .i64 0])) w' := ⟨_, h, ⟨v, rfl, ho⟩, hb⟩
theorem LexPost.err {s : ByteArray} {w w' : World} {c q : Int} {p : Nat} (h : LexR s.data.toList 0 [] (.err c p)) (hq : q = (p : Int)) (hb : Below w.heap.size w w') :
    LexPost s w (.returned (.tuple #[.slice none 0 0, .int .i64 c, .int .i64 q])) w' := ⟨_, h, by rw [hq], hb⟩
theorem rest_0 (s : ByteArray) (p : Nat) (h : p < s.size) : ∃ h0 : 0 < (s.extract p s.size).size, (s.extract p s.size)[0]'h0 = s[p]'h := by
  have hz : 0 < (s.extract p s.size).size := by simp; omega
  refine ⟨hz, ?_⟩
  have h1 := bl_get (s.extract p s.size) 0 hz
  rw [ba_drop, List.getElem?_drop, Nat.add_zero, bl_get s p h] at h1
  exact (Option.some.inj h1).symm
/-- The arms' contracts, at one cut. -/
theorem arm_word (s : ByteArray) (p : Nat) (hs : s.size ≤ 8000) (h : p < s.size) (hw : wdI ((s[p]'h).toNat : Int) = true) (W : World) (hT : Tabs W) :
    Calls Tryd.prog 28 #[.string (s.extract p s.size)] W fun e w' => e = .returned (cutV (cutL (s.data.toList.drop p))) ∧ Below W.heap.size W w' := by
  have hc := cutWord_any (s.extract p s.size) W (by simp; omega) hT
  rw [ba_drop] at hc
  have e : cutL (s.data.toList.drop p) = wordL (s.data.toList.drop p) := by
    rw [drop_cons _ _ _ (bl_get s p h)]; unfold cutL; simp only [hw, if_true]
  rw [e]; exact hc
theorem arm_num (s : ByteArray) (p : Nat) (hs : s.size ≤ 8000) (h : p < s.size) (hw : wdI ((s[p]'h).toNat : Int) = false) (hd : digI ((s[p]'h).toNat : Int) = true) (W : World) (hT : Tabs W) :
    Calls Tryd.prog 30 #[.string (s.extract p s.size)] W fun e w' => e = .returned (cutV (cutL (s.data.toList.drop p))) ∧ Below W.heap.size W w' := by
  obtain ⟨h0, h1⟩ := rest_0 s p h
  have hc := cutNumber_any (s.extract p s.size) W (by simp; omega) h0 (by rw [h1]; exact hd)
  rw [ba_drop] at hc
  have e : cutL (s.data.toList.drop p) = numL (s.data.toList.drop p) := by
    rw [drop_cons _ _ _ (bl_get s p h)]; unfold cutL; simp only; rw [if_neg (by rw [hw]; decide), if_pos hd]
  rw [e]; exact hc
theorem arm_quo (s : ByteArray) (p : Nat) (hs : s.size ≤ 8000) (h : p < s.size) (hw : s[p]'h = 34) (W : World) (hT : Tabs W) :
    Calls Tryd.prog 31 #[.string (s.extract p s.size)] W fun e w' => e = .returned (cutV (cutL (s.data.toList.drop p))) ∧ Below W.heap.size W w' := by
  obtain ⟨h0, h1⟩ := rest_0 s p h
  have hc := cutQuoted_any (s.extract p s.size) W (by simp; omega) h0 (by rw [h1]; exact hw)
  rw [ba_drop] at hc
  have e : cutL (s.data.toList.drop p) = quoL (s.data.toList.drop p) := by
    rw [drop_cons _ _ _ (bl_get s p h), hw]; exact cut_quo _
  rw [e]; exact hc
theorem arm_str (s : ByteArray) (p : Nat) (hs : s.size ≤ 8000) (h : p < s.size) (hw : s[p]'h = 39) (W : World) (hT : Tabs W) :
    Calls Tryd.prog 32 #[.string (s.extract p s.size)] W fun e w' => e = .returned (cutV (cutL (s.data.toList.drop p))) ∧ Below W.heap.size W w' := by
  obtain ⟨h0, h1⟩ := rest_0 s p h
  have hc := cutString_any (s.extract p s.size) W (by simp; omega) h0 (by rw [h1]; exact hw) hT
  rw [ba_drop] at hc
  have e : cutL (s.data.toList.drop p) = strL (s.data.toList.drop p) := by
    rw [drop_cons _ _ _ (bl_get s p h), hw]; exact cut_str _
  rw [e]; exact hc
theorem arm_sig (s : ByteArray) (p : Nat) (hs : s.size ≤ 8000) (h : p < s.size) (hw : wdI ((s[p]'h).toNat : Int) = false) (hd : digI ((s[p]'h).toNat : Int) = false) (h34 : s[p]'h ≠ 34) (h39 : s[p]'h ≠ 39) (W : World) (hT : Tabs W) :
    Calls Tryd.prog 33 #[.string (s.extract p s.size)] W fun e w' => e = .returned (cutV (cutL (s.data.toList.drop p))) ∧ Below W.heap.size W w' := by
  have hc := cutSign_any (s.extract p s.size) W (by simp; omega)
  rw [ba_drop] at hc
  have e : cutL (s.data.toList.drop p) = sigL (s.data.toList.drop p) := by
    rw [drop_cons _ _ _ (bl_get s p h)]; unfold cutL; simp only; rw [if_neg (by rw [hw]; decide), if_neg (by rw [hd]; decide), if_neg h34, if_neg h39]
  rw [e]; exact hc
end Go.Proofs.YtjpcgnkgdaphoaaDoor
