import Derived.Test.YtcgnkcehjcednaaDoorZ2
namespace Go.Proofs.YtcgnkcehjcednaaDoor
open Go.ChangeShapes Go.WideShapes Go.ChangeAt Go.RowKit Go.Shelf
set_option linter.unusedVariables false
set_option linter.unusedSimpArgs false
set_option maxRecDepth 100000
theorem LexR.few {l : List UInt8} {k : Nat} {acc : List Tok} {r : LexRes} (h : LexR l k acc r) : acc.length ≤ 2000 → ∀ ts, r = .ok ts → ts.length ≤ 2000 := by
  induction h with
  | fin h => intro ha ts e; cases e; exact ha
  | blank h hb nx ih => exact ih
  | cmt hc nx ih => exact ih
  | many h hb hc hm => intro _ ts e; cases e
  | bad h hb hc hm hk => intro _ ts e; cases e
  | tok h hb hc hm hk nx ih => intro ha ts e; exact ih (by simp; omega) ts e
theorem RT.below' {w w' : World} {v : Value} {ts : List (Int × ByteArray × Int)} {B : Nat} (h : RT w v ts) (hB : w.heap.size ≤ B) (hb : Below B w w') : RT w' v ts := h.below (hb.mono hB)
set_option maxHeartbeats 1600000 in
theorem lex_law (s : ByteArray) (ts : List Tok) (c p : Int) (w : World) (hs : s.size ≤ 1048576) (hn : ts.length ≤ 2000) (hT : Tabs w)
    (hS : ∀ w, Calls Tryd.prog 20 #[.string s] w fun e w' => ∃ v, e = .returned (.tuple #[v, .int .i64 c, .int .i64 p]) ∧ RT w' v (tv ts) ∧ Below w.heap.size w w')
    (hI : ∀ w, Tabs w → Calls Tryd.prog 21 #[.string s] w fun e w' => ∃ v, e = .returned (.tuple #[v, .int .i64 c, .int .i64 p]) ∧ w'.ownsRow w.heap.size 47 3 v ts.length (tcells ts) ∧ Below w.heap.size w w') :
    Calls Tryd.prog 6 #[.string s] w fun e w' => e = .returned (.bool true) ∧ Below w.heap.size w w' := by
  have hsi : ¬ (1048576 : Int) < s.size := by omega
  have htl := tv_len ts
  rw [tcells_tv] at hI
  have hnt : (tv ts).length ≤ 2000 := by omega
  rw [← htl] at hI
  generalize tv ts = us at *
  clear htl hn
  obtain ⟨n, hnn⟩ : ∃ n, us.length = n := ⟨_, rfl⟩
  have hn0 : ¬ (((1 + 3 * us.length : Nat)) : Int) < 0 := by omega
  obtain ⟨Q, hQ⟩ : ∃ Q : Int, (((1 + 3 * us.length : Nat)) : Int) = Q := ⟨_, rfl⟩
  rw [hQ] at hn0
  have hmk := fun la lc b xs w h hb => mark_any la lc us.length b xs w hnt h hb
  have hhd := fun la lc w h => held_any la lc us.length w hnt h
  rw [hQ] at hmk hhd
  clear hQ hnn n
  go_enter Tryd.func6, Tryd.ntmps6
  go_wp2_with (go_at_call 20; fail)
  refine (hS _).mono ?_
  rintro e w1 ⟨v, rfl, hv1, hb1⟩
  go_wp2_with (go_at_call 21; fail)
  refine (hI _ (tabs_below hT hb1)).mono ?_
  rintro e w2 ⟨u, rfl, hu2, hb2⟩
  have hv2 := hv1.below hb2
  have ru2 := RT.of_owns hu2
  go_wp2_with (go_at_call 22; fail)
  refine (eqTokenS_same u v us _ hnt ru2 hv2).mono ?_
  rintro e w3 ⟨rfl, hb3⟩
  have hu3 := own_below hu2 hb3
  obtain ⟨la, lc, rfl⟩ := owns_slice hu3
  go_wp2_with (go_at_call 23; fail)
  refine (hmk la lc _ _ _ hu3 (by have := hb2.size; have := hb3.size; omega)).mono ?_
  rintro e w4 ⟨rfl, ⟨ys, ho4, hm4⟩, hb4⟩
  have mr4 := MarkRow.of ho4 hm4
  go_wp2_with (go_at_call 24; fail)
  refine (hhd la lc _ mr4).mono ?_
  rintro e w5 ⟨rfl, hb5⟩
  have b13 : Below w1.heap.size w1 w3 := hb2.trans (hb3.mono hb2.size)
  have b14 : Below w1.heap.size w1 w4 := b13.trans hb4
  have b15 : Below w1.heap.size w1 w5 := b14.trans (hb5.mono b14.size)
  have bw5 : Below w.heap.size w w5 := hb1.trans (b15.mono hb1.size)
  go_wp2_with (go_at_call 21; fail)
  refine (hI _ (tabs_below hT bw5)).mono ?_
  rintro e w6 ⟨u6, rfl, hu6, hb6⟩
  have hv6 := (hv1.below b15).below hb6
  have ru6 := RT.of_owns hu6
  go_wp2_with (go_at_call 22; fail)
  refine (eqTokenS_same u6 v us _ hnt ru6 hv6).mono ?_
  rintro e w7 ⟨rfl, hb7⟩
  have mr7 := ((mr4.below hb5).below hb6).below hb7
  go_wp2_with (go_at_call 24; fail)
  refine (hhd la lc _ mr7).mono ?_
  rintro e w8 ⟨rfl, hb8⟩
  go_wp2
  go_ret
  exact ⟨rfl, ((bw5.trans (hb6.mono bw5.size)).trans (hb7.mono (by have := bw5.size; have := hb6.size; omega))).trans (hb8.mono (by have := bw5.size; have := hb6.size; have := hb7.size; omega))⟩
theorem lex_walk (s : ByteArray) (w : World) (hs : s.size ≤ maxLen) (hT : Tabs w) : Calls Tryd.prog 6 #[.string s] w fun e w' => e = .returned (.bool true) ∧ Below w.heap.size w w' := by
  by_cases hz : s.size ≤ 1048576
  · by_cases h8 : s.size ≤ 8000
    · by_cases hex : ∃ r, LexR s.data.toList 0 [] r
      · obtain ⟨r, hr⟩ := hex
        cases r with
        | ok ts =>
          have hn := hr.few (by simp) ts rfl
          refine lex_law s ts 0 0 w hz hn hT (fun w => (lexS_any s w h8).mono ?_) (fun w hT => (lex_any s w h8 hT).mono ?_)
          · rintro e w' ⟨r, h, h2, hb⟩
            cases hr.det h
            obtain ⟨v, rfl, ho⟩ := h2
            rw [tcells_tv, ← tv_len ts] at ho
            exact ⟨v, rfl, RT.of_owns ho, hb⟩
          · rintro e w' ⟨r, h, h2, hb⟩
            cases hr.det h
            obtain ⟨v, rfl, ho⟩ := h2
            exact ⟨v, rfl, ho, hb⟩
        | err c p =>
          refine lex_law s [] c p w hz (by simp) hT (fun w => (lexS_any s w h8).mono ?_) (fun w hT => (lex_any s w h8 hT).mono ?_)
          · rintro e w' ⟨r, h, h2, hb⟩
            cases hr.det h
            obtain ⟨b, rfl⟩ := h2
            exact ⟨_, rfl, ⟨b, 0, rfl, fun hp => by simp [tv] at hp⟩, hb⟩
          · rintro e w' ⟨r, h, h2, hb⟩
            cases hr.det h
            cases h2
            exact ⟨_, rfl, World.ownsRow_nil _ _ _ _, hb⟩
      · refine lex_law s [] 0 0 w hz (by simp) hT (fun w => (lexS_any s w h8).mono ?_) (fun w hT => (lex_any s w h8 hT).mono ?_)
        · rintro e w' ⟨r, h, _⟩; exact (hex ⟨r, h⟩).elim
        · rintro e w' ⟨r, h, _⟩; exact (hex ⟨r, h⟩).elim
    · refine lex_law s [] 5 0 w hz (by simp) hT (fun w => (lexS_big s w (by omega) hs).mono ?_) (fun w hT => (lex_big s w (by omega) hs).mono ?_)
      · rintro e w' ⟨b, rfl, hb⟩
        exact ⟨_, rfl, ⟨b, 0, rfl, fun hp => by simp [tv] at hp⟩, hb⟩
      · rintro e w' ⟨rfl, rfl⟩
        exact ⟨_, rfl, World.ownsRow_nil _ _ _ _, Below.refl _ _⟩
  · have hz' : (1048576 : Int) < s.size := by omega
    unfold maxLen at hs
    go_enter Tryd.func6, Tryd.ntmps6
    go_wp2
    go_ret
    exact ⟨rfl, Below.refl _ _⟩
end Go.Proofs.YtcgnkcehjcednaaDoor
