import Derived.Test.YtjpcgnkgdaphoaaDoorM6
import Derived.Lib.Join
namespace Go.Proofs.YtjpcgnkgdaphoaaDoor
set_option linter.unusedVariables false
set_option linter.unusedSimpArgs false
theorem cut_end (k : Int) (x : List UInt8) (h : tokOK k x) : ∃ c t, tokText k x = c :: t ∧ blank c = false ∧ cmtAt (tokText k x) 0 = false ∧ cutL (tokText k x) = .tok k x (tokText k x).length := by
  obtain ⟨n, hk, c, t, e, hb, hc⟩ := lexOne_cut ((tok_one k x).1 h)
  refine ⟨c, t, e, hb, hc, ?_⟩
  rw [hk]
  have hn : n = (tokText k x).length := by
    have hs := cut_size hk
    rcases cut_kind hk with g | ⟨g, _, g2⟩ | ⟨g, g1, g2⟩ | ⟨g, _, g2⟩ | ⟨g, g2⟩
    · subst g
      have ht : tokText 1 x = x := rfl
      rw [ht] at hk hs ⊢
      obtain ⟨c, t, hl, hw, hr, hx, hn⟩ := cut_word hk
      have hlen := congrArg List.length hx
      rw [List.length_map, List.length_take] at hlen
      omega
    · subst g
      have ht : tokText 2 x = markL 34 x := rfl
      rw [ht] at g2 ⊢
      unfold quoL markL at g2
      rw [List.drop_succ_cons, List.drop_zero, unq_dbl] at g2
      simp only at g2
      unfold markL
      repeat' split at g2
      all_goals first | (cases g2; done) | (cases g2; simp)
    · have ht : tokText k x = x := by unfold tokText; rw [if_neg (by omega), if_neg (by omega)]
      rw [ht] at g1 g2 hk ⊢
      have hnum : isNumL x k := by
        unfold tokOK at h
        have a1 : k ≠ 1 := by omega
        have a2 : k ≠ 2 := by omega
        simpa [a1, a2, g] using h
      have := hnum.2
      rw [g2] at this; cases this; rfl
    · subst g
      have ht : tokText 5 x = markL 39 x := rfl
      rw [ht] at g2 ⊢
      unfold strL markL at g2
      rw [List.drop_succ_cons, List.drop_zero, unq_dbl] at g2
      simp only at g2
      unfold markL
      repeat' split at g2
      all_goals first | (cases g2; done) | (cases g2; simp)
    · subst g
      have ht : tokText 6 x = x := rfl
      rw [ht] at g2 ⊢
      unfold sigL at g2
      split at g2
      · cases g2
      · rename_i y hy
        cases g2
        split
        · rename_i e; subst e; rfl
        · rfl
  rw [hn]
/-- Lex of the joined texts gives the tokens back. -/
theorem lex_join (l : List UInt8) : ∀ (ts : List (Int × List UInt8)) (k : Nat) (acc : List Tok), (∀ t ∈ ts, tokOK t.1 t.2) → acc.length + ts.length ≤ 2000 → l.drop k = Lib.join (ts.map fun t => tokText t.1 t.2) [32] →
    ∃ zs : List Tok, LexR l k acc (.ok (acc ++ zs)) ∧ zs.map (fun z => (z.1, z.2.1)) = ts ∧ (∀ z ∈ zs, k ≤ z.2.2) ∧ zs.Pairwise (fun a b => a.2.2 < b.2.2)
  | [], k, acc, _, _, hd => by
    have : l.length ≤ k := List.drop_eq_nil_iff.1 (by rw [hd]; rfl)
    exact ⟨[], by rw [List.append_nil]; exact LexR.fin this, rfl, by simp, List.Pairwise.nil⟩
  | [t], k, acc, hv, hm, hd => by
    rw [List.map_cons, List.map_nil, Lib.join_one] at hd
    obtain ⟨c, r, e, hb, hc, hk⟩ := cut_end t.1 t.2 (hv t (by simp))
    have h0 : l[k]? = some c := by
      have := congrArg (fun z : List UInt8 => z[0]?) hd
      simpa [List.getElem?_drop, e] using this
    have hcm : cmtAt l k = false := by
      rw [← hd] at hc
      unfold cmtAt at hc ⊢
      simpa [List.getElem?_drop] using hc
    refine ⟨[(t.1, t.2, k)], ?_, by simp, by simp, by simp⟩
    refine LexR.tok h0 hb hcm (by simp at hm; omega) (by rw [hd]; exact hk) (LexR.fin ?_)
    have := congrArg List.length hd
    rw [List.length_drop] at this
    omega
  | t :: u :: ts, k, acc, hv, hm, hd => by
    have hj : Lib.join ((t :: u :: ts).map fun t => tokText t.1 t.2) [32] = tokText t.1 t.2 ++ 32 :: Lib.join ((u :: ts).map fun t => tokText t.1 t.2) [32] := by
      rw [List.map_cons, Lib.join_cons, List.map_cons, Lib.join_cons]; simp [Lib.joinTail]
    rw [hj] at hd
    obtain ⟨c, r, e, hb, hc, hk⟩ := cut_more t.1 t.2 (Lib.join ((u :: ts).map fun t => tokText t.1 t.2) [32]) (hv t (by simp))
    have h0 : l[k]? = some c := by
      have := congrArg (fun z : List UInt8 => z[0]?) hd
      simpa [List.getElem?_drop, e] using this
    have hcm : cmtAt l k = false := by
      rw [← hd] at hc
      unfold cmtAt at hc ⊢
      simpa [List.getElem?_drop] using hc
    have hd1 : l.drop (k + (tokText t.1 t.2).length) = 32 :: Lib.join ((u :: ts).map fun t => tokText t.1 t.2) [32] := by
      rw [← List.drop_drop, hd, List.drop_left]
    have h1 : l[k + (tokText t.1 t.2).length]? = some 32 := by
      have := congrArg (fun z : List UInt8 => z[0]?) hd1
      simpa [List.getElem?_drop] using this
    have hd2 : l.drop (k + (tokText t.1 t.2).length + 1) = Lib.join ((u :: ts).map fun t => tokText t.1 t.2) [32] := by
      rw [← List.drop_drop, hd1]; rfl
    obtain ⟨zs, hz1, hz2, hz3, hz4⟩ := lex_join l (u :: ts) (k + (tokText t.1 t.2).length + 1) (acc ++ [(t.1, t.2, k)]) (fun z hz => hv z (by simp at hz ⊢; exact .inr hz)) (by simp at hm ⊢; omega) hd2
    refine ⟨(t.1, t.2, k) :: zs, ?_, by rw [List.map_cons, hz2], ?_, ?_⟩
    · rw [List.append_assoc] at hz1
      exact LexR.tok h0 hb hcm (by simp at hm; omega) (by rw [hd]; exact hk) (LexR.blank h1 (by decide) hz1)
    · intro z hz
      rcases List.mem_cons.1 hz with rfl | hz
      · exact Nat.le_refl _
      · have := hz3 z hz; omega
    · refine List.pairwise_cons.2 ⟨fun z hz => ?_, hz4⟩
      have := hz3 z hz
      show k < z.2.2
      omega
end Go.Proofs.YtjpcgnkgdaphoaaDoor
