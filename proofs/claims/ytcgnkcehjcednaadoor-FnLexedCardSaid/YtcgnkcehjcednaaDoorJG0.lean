import Derived.Test.YtcgnkcehjcednaaDoorN1
import Derived.Test.YtcgnkcehjcednaaDoorY4
import Derived.Test.YtcgnkcehjcednaaDoorX2
import Derived.Test.YtcgnkcehjcednaaDoorN7
import Derived.Test.YtcgnkcehjcednaaDoorN9
namespace Go.Proofs.YtcgnkcehjcednaaDoor
open Go.ChangeShapes Go.WideShapes Go.ChangeAt Go.RowKit Go.Shelf
set_option linter.unusedVariables false
set_option linter.unusedSimpArgs false
set_option maxRecDepth 100000
theorem LexR.few2 {l : List UInt8} {k : Nat} {acc : List Tok} {r : LexRes} (h : LexR l k acc r) : acc.length ≤ 2000 → ∀ ts, r = .ok ts → ts.length ≤ 2000 := by
  induction h with
  | fin h => intro ha ts e; cases e; exact ha
  | blank h hb nx ih => exact ih
  | cmt hc nx ih => exact ih
  | many h hb hc hm => intro _ ts e; cases e
  | bad h hb hc hm hk => intro _ ts e; cases e
  | tok h hb hc hm hk nx ih => intro ha ts e; exact ih (by simp; omega) ts e
theorem lex_big2 (s : ByteArray) (w : World) (hs : 8000 < s.size) (hm : s.size ≤ maxLen) : Calls Tryd.prog 21 #[.string s] w fun e w' => e = .returned (.tuple #[.slice none 0 0, .int .i64 5, .int .i64 0]) ∧ w' = w := by
  unfold maxLen at hm
  have h : (8000 : Int) < s.size := by omega
  go_enter Tryd.func21, Tryd.ntmps21
  go_wp2
  try go_step3
  go_wp2
  try rw [Exit.noGoto_ret]
  go_ret3
  exact ⟨rfl, rfl⟩
theorem LexR.code {l : List UInt8} {k : Nat} {acc : List Tok} {r : LexRes} (h : LexR l k acc r) : ∀ c p, r = .err c p → c ≠ 0 := by
  induction h with
  | fin h => intro c p e; cases e
  | blank h hb nx ih => exact ih
  | cmt hc nx ih => exact ih
  | many h hb hc hm => intro c p e; cases e; decide
  | bad h hb hc hm hk => intro c p e; cases e; have := (cut_err hk).1; omega
  | tok h hb hc hm hk nx ih => exact ih
theorem tokOK_small (k : Int) (x : ByteArray) (h : tokOK k x.data.toList) : (tokText k x.data.toList).length ≤ 8000 := by
  have hx : x.data.toList.length = x.size := by simp
  have hs := tokText_small k x
  unfold tokOK at h
  split at h
  · unfold isWordL at h; simp only [Bool.and_eq_true, decide_eq_true_eq] at h; omega
  · split at h
    · unfold isNameL at h; simp only [Bool.and_eq_true, decide_eq_true_eq] at h; omega
    · split at h
      · have := (num_len h).2; omega
      · split at h
        · unfold strOK at h
          rw [ba_mk] at h
          rcases Nat.lt_or_ge 1020 x.size with g | g
          · rw [textOK_long x g] at h; cases h
          · omega
        · split at h
          · unfold isSigL at h; simp only [Bool.and_eq_true, decide_eq_true_eq] at h; omega
          · exact h.elim
set_option maxHeartbeats 3200000 in
theorem tokenOK_any (k p : Int) (x : ByteArray) (w : World) (hs : x.size ≤ 1048576) (hT : Tabs w) (hM : ML w) :
    Calls Tryd.prog 47 #[.agg #[.int .i64 k, .string x, .int .i64 p]] w fun e w' => e = .returned (.bool (okB k x.data.toList)) ∧ Below w.heap.size w w' := by
  have hM1 : ∀ o, ML (w.alloc o) := fun o => hM.below (below_alloc _ _)
  have htt := fun w hM => tokenText_any k 0 x w hs hM
  have hts := tokText_small k x
  have hone := tok_one k x.data.toList
  have hsm := tokOK_small k x
  obtain ⟨T, hTd⟩ : ∃ T : ByteArray, T = ⟨(tokText k x.data.toList).toArray⟩ := ⟨_, rfl⟩
  rw [← hTd] at htt
  have hTl : T.data.toList = tokText k x.data.toList := by rw [hTd]
  have hTs : T.size = (tokText k x.data.toList).length := by rw [hTd]; simp [ByteArray.size]
  rw [← hTl] at hone
  rw [← hTs] at hts hsm
  clear hTd hTl hTs
  by_cases h8 : T.size ≤ 8000
  · have hlx := fun w hT => lex_any T w h8 hT
    go_enter Tryd.func47, Tryd.ntmps47
    go_wp2_with (go_at_call 48; refine (htt _ (hM1 _)).mono ?_; rintro e w1 ⟨rfl, hb1⟩; obtain ⟨hc1, hf1⟩ := bcell hb1; have hz1 : w.heap.size < w1.heap.size := (by have := hb1.size; simp at this; omega); have bw1 : Below w.heap.size w w1 := ((Below.refl _ _).alloc (Nat.le_refl _) _).trans (hb1.mono (by simp)); clear hb1)
    refine (hlx _ (tabs_below hT bw1)).mono ?_
    rintro e w2 ⟨r, hr, hres, hb2⟩
    obtain ⟨hc2, hf2⟩ := bcell hb2
    have hz2 : w.heap.size < w2.heap.size := by have := hb2.size; omega
    have bw2 : Below w.heap.size w w2 := bw1.trans (hb2.mono (Nat.le_of_lt hz1))
    cases r with
    | err c q =>
      have hcne := hr.code c q rfl
      have hcz : (c == 0) = false := by rw [beq_eq_false_iff_ne]; exact hcne
      have HB : Hid (okB k x.data.toList = false) := okB_no (fun z => by have := LexR.det hr (hone.1 z); cases this)
      cases hres
      clear hr hone hsm
      go_wp2
      go_quiet (fail)
      go_wp2
      go_ret
      exact ⟨ret_bool HB.out.symm, below_drewN bw2 _⟩
    | ok ts =>
      obtain ⟨v, rfl, ho⟩ := hres
      obtain ⟨la, lc, rfl⟩ := owns_slice ho
      have hfew := hr.few2 (by simp) ts rfl
      by_cases h1 : ts.length = 1
      · obtain ⟨⟨k1, x1, p1⟩, rfl⟩ := List.length_eq_one_iff.1 h1
        obtain ⟨g, rfl⟩ : ∃ g, la = some ⟨g, 0, none⟩ := by
          rcases ho.2 with ⟨h', h0⟩ | ⟨g, cap, cur, h', _⟩
          · simp at h0
          · simp only [Value.slice.injEq] at h'; exact ⟨g, h'.1⟩
        have e0 := ho.cellAt 0 (by simp)
        have e1 := ho.cellAt 1 (by simp)
        have e2 := ho.cellAt 2 (by simp)
        simp only [tcells, List.flatMap_cons, List.flatMap_nil, List.append_nil, List.getElem?_cons_zero, List.getElem?_cons_succ] at e0 e1 e2
        obtain ⟨X, hX⟩ : ∃ X : ByteArray, X = ⟨x1.toArray⟩ := ⟨_, rfl⟩
        rw [← hX] at e1
        have hXd : x1 = X.data.toList := by rw [hX]
        clear hX
        subst hXd
        have hg2 := (ho.lt g rfl).2
        simp only [List.length_cons, List.length_nil, Nat.zero_add] at hfew
        clear ho
        by_cases heq : k1 = k ∧ X = x ∧ p1 = 0
        · obtain ⟨rfl, rfl, rfl⟩ := heq
          have HB : Hid (okB k1 X.data.toList = true) := okB_yes (hone.2 hr)
          clear hr hone hsm h1
          go_wp2
          go_quiet (fail)
          go_wp2
          go_ret
          exact ⟨ret_bool HB.out.symm, below_drewN bw2 _⟩
        · have HB : Hid (okB k x.data.toList = false) := okB_no (fun z => by
            have := LexR.det hr (hone.1 z)
            simp only [LexRes.ok.injEq, List.cons.injEq, Prod.mk.injEq, and_true] at this
            exact heq ⟨this.1, ba_ext this.2.1, this.2.2⟩)
          clear hr hone hsm h1
          by_cases hk : k1 = k
          · subst hk
            by_cases hx : X = x
            · subst hx
              have hp : ((p1 : Int) == 0) = false := by rw [beq_eq_false_iff_ne]; intro z; exact heq ⟨rfl, rfl, by omega⟩
              clear heq
              go_wp2
              go_quiet (fail)
              go_wp2
              go_ret
              exact ⟨ret_bool HB.out.symm, below_drewN bw2 _⟩
            · have hxb : (X.toList == x.toList) = false := by rw [Lib.toList_data, Lib.toList_data, beq_eq_false_iff_ne]; intro z; exact hx (ba_ext z)
              have hxb2 : (X == x) = false := by
                rw [show (X == x) = (X.data == x.data) from rfl, beq_eq_false_iff_ne]; intro z; exact hx (ba_ext (by rw [z]))
              clear heq
              go_wp2
              go_quiet (fail)
              go_wp2
              go_ret
              exact ⟨ret_bool HB.out.symm, below_drewN bw2 _⟩
          · have hkb : (k1 == k) = false := by rw [beq_eq_false_iff_ne]; exact hk
            clear heq
            go_wp2
            go_quiet (fail)
            go_wp2
            go_ret
            exact ⟨ret_bool HB.out.symm, below_drewN bw2 _⟩
      · have h1b : ((ts.length : Int) == 1) = false := by rw [beq_eq_false_iff_ne]; omega
        have HB : Hid (okB k x.data.toList = false) := okB_no (fun z => by have := LexR.det hr (hone.1 z); cases this; exact h1 rfl)
        clear hr hone hsm ho h1
        go_wp2
        go_quiet (fail)
        go_wp2
        go_ret
        exact ⟨ret_bool HB.out.symm, below_drewN bw2 _⟩
  · have HB : Hid (okB k x.data.toList = false) := okB_no (fun z => h8 (hsm z))
    have hlx := fun w => lex_big2 T w (by omega) (by unfold maxLen; omega)
    clear hone hsm
    go_enter Tryd.func47, Tryd.ntmps47
    go_wp2_with (first | (go_at_call 48; refine (htt _ (hM1 _)).mono ?_; rintro e w1 ⟨rfl, hb1⟩; obtain ⟨hc1, hf1⟩ := bcell hb1; have hz1 : w.heap.size < w1.heap.size := (by have := hb1.size; simp at this; omega); have bw1 : Below w.heap.size w w1 := ((Below.refl _ _).alloc (Nat.le_refl _) _).trans (hb1.mono (by simp)); clear hb1) | (go_at_call 21; refine (hlx _).mono ?_; rintro e w' ⟨rfl, rfl⟩))
    go_quiet (fail)
    go_wp2
    go_ret
    exact ⟨ret_bool HB.out.symm, below_drewN (by assumption) _⟩
end Go.Proofs.YtcgnkcehjcednaaDoor
namespace Go.Proofs.YtcgnkcehjcednaaDoor
open Go.ChangeShapes Go.WideShapes Go.ChangeAt Go.RowKit Go.Shelf
set_option linter.unusedVariables false
set_option linter.unusedSimpArgs false
set_option maxRecDepth 100000
/-- What the given Lex answers. -/
def LexPostS (s : ByteArray) (w : World) (e : Ending) (w' : World) : Prop :=
  ∃ r, LexR s.data.toList 0 [] r ∧ (match r with
    | .ok ts => ∃ v, e = .returned (.tuple #[v, .int .i64 0, .int .i64 0]) ∧ w'.ownsRow w.heap.size 47 3 v ts.length (tcells ts)
    | .err c p => ∃ b, e = .returned (.tuple #[.slice b 0 0, .int .i64 c, .int .i64 (p : Int)])) ∧ Below w.heap.size w w'
theorem LexPostS.ok {s : ByteArray} {w w' : World} {ts : List Tok} {v : Value} (h : LexR s.data.toList 0 [] (.ok ts)) (ho : w'.ownsRow w.heap.size 47 3 v ts.length (tcells ts)) (hb : Below w.heap.size w w') :
    LexPostS s w (.returned (.tuple #[v, .int .i64 0, .int .i64 0])) w' := ⟨_, h, ⟨v, rfl, ho⟩, hb⟩
theorem LexPostS.err {s : ByteArray} {w w' : World} {c q : Int} {p : Nat} {b : Option Addr} (h : LexR s.data.toList 0 [] (.err c p)) (hq : q = (p : Int)) (hb : Below w.heap.size w w') :
    LexPostS s w (.returned (.tuple #[.slice b 0 0, .int .i64 c, .int .i64 q])) w' := ⟨_, h, ⟨b, by rw [hq]⟩, hb⟩
set_option maxHeartbeats 4000000 in
theorem lexS_any (s : ByteArray) (w : World) (hs : s.size ≤ 8000) : Calls Tryd.prog 20 #[.string s] w fun e w' => LexPostS s w e w' := by
  have hsl : s.data.toList.length = s.size := by simp
  obtain ⟨i0, hi, hz0, hz1i, hz2⟩ := info_parts info47
  have hsk0 := fun w => skip_any s 0 w hs (by omega)
  have hsk0' : ∀ w, Calls Tryd.prog 49 #[.string s, .int .i64 0] w fun e w' => ∃ q : Nat, SkipTo s.data.toList 0 q ∧ q ≤ s.size ∧ e = .returned (.int .i64 q) ∧ w' = w := hsk0
  clear hsk0
  go_enter Tryd.func20, Tryd.ntmps20
  go_wp2_with (go_at_call 49; refine (hsk0' _).mono ?_; rintro e w' ⟨q0, HQ0, hq0, rfl, rfl⟩; have HQ1 : Hid (SkipTo s.data.toList 0 q0) := HQ0; clear HQ0)
  go_loopw [5, 6] (fun v i wr => ∃ (p : Nat) (acc : List Tok), p ≤ s.size ∧ i = .int .i64 p ∧ acc.length ≤ 2000 ∧ Hid (p < s.size → ∃ c, s.data.toList[p]? = some c ∧ blank c = false ∧ cmtAt s.data.toList p = false) ∧ Hid (∀ r, LexR s.data.toList p acc r → LexR s.data.toList 0 [] r) ∧ wr.ownsRow w.heap.size 47 3 v acc.length (tcells acc) ∧ Below w.heap.size w wr) (fun _ i _ => s.size - (intOf i).toNat)
  case atStart =>
    refine ⟨q0, [], hq0, rfl, by simp, fun h => HQ1.out.2.2.2 (by omega), fun r h => HQ1.out.2.2.1 [] r h, ?_, (Below.refl _ _).alloc (Nat.le_refl _) _⟩
    exact World.ownsRow_made w #[] 0 (Nat.le_refl _) (by unfold maxLen; omega) (by simp)
  case round =>
    obtain ⟨p, acc, hp, rfl, hal, HN, HC, hown, hbel⟩ := hrel
    have hbs := hbel.size
    obtain ⟨la, lc, hu5⟩ := owns_slice hown
    subst hu5
    by_cases hlt : p < s.size
    · have hlti : (p : Int) < s.size := by omega
      obtain ⟨c0, hg, hbl, hcm⟩ := HN.out hlt
      have HG : Hid (s.data.toList[p]? = some c0) := hg
      have HBL : Hid (blank c0 = false) := hbl
      have HCM : Hid (cmtAt s.data.toList p = false) := hcm
      clear hg hbl hcm HN
      by_cases hm : acc.length = 2000
      · have hmi : ((acc.length : Int) == 2000) = true := by rw [beq_iff_eq]; omega
        have HM : Hid (acc.length = 2000) := hm
        clear hm
        go_wp2
        go_ret3
        exact LexPostS.err (HC.out _ (LexR.many HG.out HBL.out HCM.out HM.out)) rfl (hbel.alloc hbs _)
      · have hmi : ((acc.length : Int) == 2000) = false := by rw [beq_eq_false_iff_ne]; omega
        have htk := fun w => token_any s p w hs hlt
        cases hcl : cutL (s.data.toList.drop p) with
        | err c f =>
          rw [hcl] at htk
          simp only [cutT] at htk
          have HK : Hid (cutL (s.data.toList.drop p) = .err c f) := hcl
          have hce := cut_err hcl
          rw [List.length_drop, hsl] at hce
          have hcne : (c != 0) = true := by rw [bne_iff_ne]; omega
          obtain ⟨E, hE⟩ : ∃ E : Int, ((p + f : Nat) : Int) = E := ⟨_, rfl⟩
          rw [hE] at htk
          have HE : Hid (E = ((p + f : Nat) : Int)) := hE.symm
          clear hcl hE
          go_wp2_with (go_at_call 50; refine (htk _).mono ?_; rintro e w1 ⟨rfl, hb1⟩; have bw1 : Below w.heap.size w w1 := hbel.trans (hb1.mono hbs); have hz1 : wr.heap.size ≤ w1.heap.size := hb1.size; clear hb1)
          go_ret3
          exact LexPostS.err (HC.out _ (LexR.bad HG.out HBL.out HCM.out hm HK.out)) HE.out ((bw1.alloc (by omega) _).alloc (by simp; omega) _)
        | tok k x n =>
          rw [hcl] at htk
          simp only [cutT] at htk
          have HK : Hid (cutL (s.data.toList.drop p) = .tok k x n) := hcl
          have hn := cut_size hcl
          rw [List.length_drop, hsl] at hn
          have hsk := fun w => skip_any s (p + n) w hs (by omega)
          obtain ⟨E, hE⟩ : ∃ E : Int, ((p + n : Nat) : Int) = E := ⟨_, rfl⟩
          rw [hE] at htk hsk
          clear hcl hE
          go_wp2_with (first | (go_at_call 50; refine (htk _).mono ?_; rintro e w1 ⟨rfl, hb1⟩; have bw1 : Below w.heap.size w w1 := hbel.trans (hb1.mono hbs); have hz1 : wr.heap.size ≤ w1.heap.size := hb1.size; have ho1 := own_below hown hb1; clear hb1) | (go_at_call 49; refine (hsk _).mono ?_; rintro e w' ⟨q, HQ0, hq0, rfl, rfl⟩; have HQ : Hid (SkipTo s.data.toList (p + n) q) := HQ0; clear HQ0) | (at_builtin; refine wpList_append_own _ rfl (.tmp 40) (.tmp 42) 33 rfl w.heap.size 47 i0 (.agg #[.int .i64 0, .string ⟨#[]⟩, .int .i64 0]) 3 32 Tryd.underlying33 hi hz0 hz1i hz2 rfl (by decide) (.slice la acc.length lc) acc.length (tcells acc) rfl ((ho1.alloc _).alloc _) ⟨_, 0, none⟩ 1 1 [.int .i64 k, .string ⟨x.toArray⟩, .int .i64 (p : Int)] rfl rfl (cells3 _ _ (by simp) _ _ _ _) (by intro u hu; simp at hu; rcases hu with rfl | rfl | rfl <;> rfl) (by unfold maxLen; omega) (by omega) (by simp; omega) ?_; intro v' w2 hown' hgrow _))
          have HB2 : Hid (Below w.heap.size w w') := Below.grown ((bw1.alloc (by omega) _).alloc (by simp; omega) _) hgrow (by simp; omega) (fun k hk => (hown.lt k hk).1)
          have HO : Hid (w'.ownsRow w.heap.size 47 3 v' (acc ++ [(k, x, p)]).length (tcells (acc ++ [(k, x, p)]))) := by
            show w'.ownsRow w.heap.size 47 3 v' (acc ++ [(k, x, p)]).length (tcells (acc ++ [(k, x, p)]))
            rw [tcells_snoc]; simpa using hown'
          clear hown' hgrow
          have hqp := HQ.out.1
          go_roundw
          case rel => exact ⟨q, acc ++ [(k, x, p)], hq0, rfl, by simp; omega, fun h => HQ.out.2.2.2 (by omega), fun r h => HC.out r (LexR.tok HG.out HBL.out HCM.out hm HK.out (HQ.out.2.2.1 _ r h)), HO.out, HB2.out⟩
          case measure => simp [intOf]; omega
    · have hlti : ¬ (p : Int) < s.size := by omega
      go_wp2
      go_ret3
      exact LexPostS.ok (HC.out _ (LexR.fin (by omega))) hown hbel
theorem lex_big (s : ByteArray) (w : World) (hs : 8000 < s.size) (hm : s.size ≤ maxLen) : Calls Tryd.prog 21 #[.string s] w fun e w' => e = .returned (.tuple #[.slice none 0 0, .int .i64 5, .int .i64 0]) ∧ w' = w := by
  unfold maxLen at hm
  have h : (8000 : Int) < s.size := by omega
  go_enter Tryd.func21, Tryd.ntmps21
  go_wp2
  try go_step3
  go_wp2
  try rw [Exit.noGoto_ret]
  go_ret3
  exact ⟨rfl, rfl⟩
theorem lexS_big (s : ByteArray) (w : World) (hs : 8000 < s.size) (hm : s.size ≤ maxLen) : Calls Tryd.prog 20 #[.string s] w fun e w' => ∃ b, e = .returned (.tuple #[.slice b 0 0, .int .i64 5, .int .i64 0]) ∧ Below w.heap.size w w' := by
  unfold maxLen at hm
  have h : (8000 : Int) < s.size := by omega
  go_enter Tryd.func20, Tryd.ntmps20
  go_wp2
  go_ret3
  exact ⟨_, rfl, (Below.refl _ _).alloc (Nat.le_refl _) _⟩
end Go.Proofs.YtcgnkcehjcednaaDoor
namespace Go.Proofs.YtcgnkcehjcednaaDoor
open Go.ChangeShapes Go.WideShapes Go.ChangeAt Go.RowKit Go.Shelf
set_option linter.unusedVariables false
set_option linter.unusedSimpArgs false
set_option maxRecDepth 100000
theorem undrew {W w' : World} (hb : Below W.drew.heap.size W.drew w') : Below W.heap.size W w' := (Below.refl W.heap.size W).drew.trans hb
/-- A mark's text. -/
def mkD (n : Nat) (acc : List UInt8) : List UInt8 := if h : n = 0 then acc else mkD (n / 10) (UInt8.ofNat (48 + n % 10) :: acc)
  termination_by n
  decreasing_by omega
theorem mkD_zero (acc : List UInt8) : mkD 0 acc = acc := by rw [mkD]; simp
theorem mkD_step (n : Nat) (acc : List UInt8) (h : 0 < n) : mkD n acc = mkD (n / 10) (UInt8.ofNat (48 + n % 10) :: acc) := by rw [mkD]; rw [dif_neg (by omega)]
def mkT (n : Nat) : ByteArray := ⟨(109 :: mkD n []).toArray⟩
theorem conv_one (W : World) (x : UInt8) : (convert 44 9 (.slice (some ⟨W.heap.size, 0, none⟩) 1 1)).run Tryd.prog (W.alloc (.cells #[.int .u8 (x.toNat : Int)] 5)) = .ok (.string ⟨#[x]⟩) (W.alloc (.cells #[.int .u8 (x.toNat : Int)] 5)) := by
  have h := conv_own (W.alloc (.cells #[.int .u8 (x.toNat : Int)] 5)) W.heap.size (.slice (some ⟨W.heap.size, 0, none⟩) 1 1) [x] ⟨by simp [bcells], .inr ⟨W.heap.size, 1, #[.int .u8 (x.toNat : Int)], rfl, Nat.le_refl _, heap_alloc_new W _, by simp, by unfold maxLen; simp, by simp, by simp [bcells]⟩⟩
  exact h
set_option maxHeartbeats 1600000 in
theorem markText_any (m : Nat) (w : World) (h0 : 0 < m) (hm : m ≤ 100000) : Calls Tryd.prog 60 #[.int .i64 m] w fun e w' => e = .returned (.string (mkT m)) ∧ Below w.heap.size w w' := by
  have hmi : ¬ (m : Int) ≤ 0 := by omega
  go_enter Tryd.func60, Tryd.ntmps60
  go_wp2
  go_loopw [0, 3] (fun i v wr => ∃ (n : Nat) (acc : ByteArray), i = .int .i64 n ∧ n ≤ m ∧ v = .string acc ∧ acc.size + n ≤ 100000 ∧ Hid (mkD n acc.data.toList = mkD m []) ∧ Below w.heap.size w wr) (fun i _ _ => (intOf i).toNat)
  case atStart => exact ⟨m, ⟨#[]⟩, rfl, Nat.le_refl _, rfl, by simp [ByteArray.size]; omega, rfl, Below.refl _ _⟩
  case round =>
    obtain ⟨n, acc, rfl, hn, rfl, hac, HM, hbel⟩ := hrel
    by_cases hp : 0 < n
    · have hpi : (0 : Int) < n := by omega
      have HS := mkD_step n acc.data.toList hp
      have hx : ((UInt8.ofNat (48 + n % 10)).toNat : Int) = 48 + (n : Int) % 10 := by simp; omega
      have hcv := fun W => conv_one W (UInt8.ofNat (48 + n % 10))
      rw [hx] at hcv
      have HS2 : Hid (mkD (n / 10) ((⟨#[UInt8.ofNat (48 + n % 10)]⟩ : ByteArray) ++ acc).data.toList = mkD m []) := by
        show mkD (n / 10) ((⟨#[UInt8.ofNat (48 + n % 10)]⟩ : ByteArray) ++ acc).data.toList = mkD m []
        rw [ByteArray.data_append, Array.toList_append]
        show mkD (n / 10) (UInt8.ofNat (48 + n % 10) :: acc.data.toList) = mkD m []
        rw [← HS, HM.out]
      clear HS HM
      have hsz : ((⟨#[UInt8.ofNat (48 + n % 10)]⟩ : ByteArray)).size = 1 := rfl
      generalize (⟨#[UInt8.ofNat (48 + n % 10)]⟩ : ByteArray) = d at *
      go_wp2
      go_roundw
      case rel => exact ⟨n / 10, d ++ acc, by (first | go_num | (congr 1; omega) | simp), by omega, rfl, by rw [ByteArray.size_append]; omega, HS2.out, hbel.alloc hbel.size _⟩
      case measure => simp [intOf]; omega
    · have hn0 : n = 0 := by omega
      subst hn0
      have HE : Hid (acc.data.toList = mkD m []) := by have := HM.out; rw [mkD_zero] at this; exact this
      clear HM
      go_wp2
      go_ret
      refine ⟨ret_str (ba_ext ?_), hbel⟩
      rw [ByteArray.data_append, Array.toList_append, HE.out]; rfl
/-- Tokens that a slice leads to. -/
def RT (w : World) (v : Value) (ts : List (Int × ByteArray × Int)) : Prop :=
  ∃ a cap, v = .slice a ts.length cap ∧ (0 < ts.length → ∃ g, a = some ⟨g, 0, none⟩ ∧ g < w.heap.size ∧ ∀ i (h : i < ts.length), w.cell? ⟨g, i * 3, none⟩ = some (.int .i64 ts[i].1) ∧ w.cell? ⟨g, i * 3 + 1, none⟩ = some (.string ts[i].2.1) ∧ w.cell? ⟨g, i * 3 + 2, none⟩ = some (.int .i64 ts[i].2.2))
theorem RT.below {w w' : World} {v : Value} {ts : List (Int × ByteArray × Int)} (h : RT w v ts) (hb : Below w.heap.size w w') : RT w' v ts := by
  obtain ⟨a, cap, rfl, h2⟩ := h
  refine ⟨a, cap, rfl, fun hp => ?_⟩
  obtain ⟨g, ha, hg, hc⟩ := h2 hp
  refine ⟨g, ha, Nat.lt_of_lt_of_le hg hb.size, fun i hi => ?_⟩
  have h3 := hc i hi
  exact ⟨(hb.cell (p := ⟨g, i * 3, none⟩) hg).trans h3.1, (hb.cell (p := ⟨g, i * 3 + 1, none⟩) hg).trans h3.2.1, (hb.cell (p := ⟨g, i * 3 + 2, none⟩) hg).trans h3.2.2⟩
def tvs (l : List (Int × ByteArray × Int)) : List Value := l.flatMap fun t => [.int .i64 t.1, .string t.2.1, .int .i64 t.2.2]
theorem tvs_len (l : List (Int × ByteArray × Int)) : (tvs l).length = l.length * 3 := by
  induction l with
  | nil => rfl
  | cons t l ih => simp [tvs] at ih ⊢; omega
theorem tvs_get : ∀ (l : List (Int × ByteArray × Int)) (i : Nat) (h : i < l.length), (tvs l)[i * 3]? = some (.int .i64 l[i].1) ∧ (tvs l)[i * 3 + 1]? = some (.string l[i].2.1) ∧ (tvs l)[i * 3 + 2]? = some (.int .i64 l[i].2.2)
  | [], i, h => by simp at h
  | t :: l, 0, h => by simp [tvs]
  | t :: l, i + 1, h => by
    have ih := tvs_get l i (by simpa using h)
    have e : tvs (t :: l) = [.int .i64 t.1, .string t.2.1, .int .i64 t.2.2] ++ tvs l := by simp [tvs]
    have hs : ∀ k, (tvs (t :: l))[k + 3]? = (tvs l)[k]? := fun k => by rw [e, List.getElem?_append_right (by simp)]; simp
    refine ⟨?_, ?_, ?_⟩
    · rw [show (i + 1) * 3 = i * 3 + 3 by omega, hs]; exact ih.1
    · rw [show (i + 1) * 3 + 1 = i * 3 + 1 + 3 by omega, hs]; exact ih.2.1
    · rw [show (i + 1) * 3 + 2 = i * 3 + 2 + 3 by omega, hs]; exact ih.2.2
theorem RT.of_owns {w : World} {b : Nat} {v : Value} {ts : List (Int × ByteArray × Int)} (h : w.ownsRow b 47 3 v ts.length (tvs ts)) : RT w v ts := by
  have hl := h.lt
  rcases h.2 with ⟨rfl, h0⟩ | ⟨g, cap, cur, rfl, hg1, hg2, hg3⟩
  · exact ⟨none, 0, by rw [h0], fun hp => by omega⟩
  · refine ⟨_, _, rfl, fun hp => ⟨g, rfl, (hl g rfl).2, fun i hi => ?_⟩⟩
    have t := tvs_get ts i hi
    exact ⟨(h.cellAt (i * 3) (by omega)).trans t.1, (h.cellAt (i * 3 + 1) (by omega)).trans t.2.1, (h.cellAt (i * 3 + 2) (by omega)).trans t.2.2⟩
def tv (l : List Tok) : List (Int × ByteArray × Int) := l.map fun t => (t.1, ⟨t.2.1.toArray⟩, (t.2.2 : Int))
theorem tcells_tv (l : List Tok) : tcells l = tvs (tv l) := by simp [tcells, tvs, tv, List.flatMap_map]
theorem tv_len (l : List Tok) : (tv l).length = l.length := by simp [tv]
set_option maxHeartbeats 400000 in
theorem eqToken_same (k p : Int) (x : ByteArray) (w : World) : Calls Tryd.prog 59 #[.agg #[.int .i64 k, .string x, .int .i64 p], .agg #[.int .i64 k, .string x, .int .i64 p]] w fun e w' => e = .returned (.bool true) ∧ Below w.heap.size w w' := by
  go_enter Tryd.func59, Tryd.ntmps59
  go_wp2
  go_ret
  exact ⟨rfl, ((Below.refl _ _).alloc (Nat.le_refl _) _).alloc (by simp) _⟩
set_option maxHeartbeats 1600000 in
theorem eqTokenS_same (v u : Value) (ts : List (Int × ByteArray × Int)) (w : World) (hn : ts.length ≤ 2000) (hv : RT w v ts) (hu : RT w u ts) :
    Calls Tryd.prog 22 #[v, u] w fun e w' => e = .returned (.bool true) ∧ Below w.heap.size w w' := by
  obtain ⟨a, ca, rfl, hva⟩ := hv
  obtain ⟨b, cb, rfl, hub⟩ := hu
  go_enter Tryd.func22, Tryd.ntmps22
  go_wp2
  go_loopw [5] (fun i wr => ∃ k : Nat, k ≤ ts.length ∧ i = .int .i64 k ∧ Below w.heap.size w wr) (fun i _ => ts.length - (intOf i).toNat)
  case atStart => exact ⟨0, Nat.zero_le _, rfl, Below.refl _ _⟩
  case round =>
    obtain ⟨k, hk, rfl, hbel⟩ := hrel
    have hbs := hbel.size
    by_cases hlt : k < ts.length
    · have hlti : (k : Int) < ts.length := by omega
      obtain ⟨g, rfl, hg, hgc⟩ := hva (by omega)
      obtain ⟨g2, rfl, hg2, hgc2⟩ := hub (by omega)
      obtain ⟨a0, a1, a2⟩ := hgc k hlt
      obtain ⟨b0, b1, b2⟩ := hgc2 k hlt
      have c0 := (hbel.cell (p := ⟨g, k * 3, none⟩) hg).trans a0
      have c1 := (hbel.cell (p := ⟨g, k * 3 + 1, none⟩) hg).trans a1
      have c2 := (hbel.cell (p := ⟨g, k * 3 + 2, none⟩) hg).trans a2
      have d0 := (hbel.cell (p := ⟨g2, k * 3, none⟩) hg2).trans b0
      have d1 := (hbel.cell (p := ⟨g2, k * 3 + 1, none⟩) hg2).trans b1
      have d2 := (hbel.cell (p := ⟨g2, k * 3 + 2, none⟩) hg2).trans b2
      clear hgc hgc2 a0 a1 a2 b0 b1 b2 hva hub
      generalize ts[k] = t at *
      obtain ⟨tk, tx, tp⟩ := t
      simp only at c0 c1 c2 d0 d1 d2
      go_wp2
      go_region_with (go_at_call 59; refine (eqToken_same _ _ _ _).mono ?_; rintro e w1 ⟨rfl, hb'⟩; replace hb' := undrew hb'; have bw1 : Below w.heap.size w w1 := hbel.trans (hb'.mono hbs))
      all_goals
        go_wp2
        go_roundw
        case rel => exact ⟨k + 1, by omega, by go_num, by first | exact bw1 | exact bw1.drew⟩
        case measure => simp [intOf]; omega
    · go_wp2
      go_ret
      exact ⟨rfl, hbel⟩
end Go.Proofs.YtcgnkcehjcednaaDoor
namespace Go.Proofs.YtcgnkcehjcednaaDoor
open Go.ChangeShapes Go.WideShapes Go.ChangeAt Go.RowKit Go.Shelf
set_option linter.unusedVariables false
set_option linter.unusedSimpArgs false
set_option maxRecDepth 100000
abbrev TV := Int × ByteArray × Int
noncomputable def allOK (us : List TV) : Bool := us.all (fun t => okB t.1 t.2.1.data.toList)
def uTexts (us : List TV) : List ByteArray := us.map fun t => ⟨(tokText t.1 t.2.1.data.toList).toArray⟩
def uText (us : List TV) : List UInt8 := Lib.join ((uTexts us).map (·.data.toList)) [32]
/-- What Unlex answers: text and code. -/
noncomputable def unlexR (us : List TV) : ByteArray × Int := if 2000 < us.length ∨ allOK us = false then (⟨#[]⟩, 1) else if 8000 < (uText us).length then (⟨#[]⟩, 5) else (⟨(uText us).toArray⟩, 0)
theorem join_len (B : Nat) : ∀ l : List (List UInt8), (∀ x ∈ l, x.length ≤ B) → (Lib.join l [32]).length ≤ l.length * (B + 1)
  | [], _ => by simp [Lib.join, List.intercalate]
  | [x], h => by rw [Lib.join_one]; have := h x (by simp); simp; omega
  | x :: y :: r, h => by
    have ih := join_len B (y :: r) (fun z hz => h z (List.mem_cons_of_mem _ hz))
    have hj : Lib.join (x :: y :: r) [32] = x ++ 32 :: Lib.join (y :: r) [32] := by
      rw [Lib.join_cons, Lib.join_cons]; simp [Lib.joinTail]
    have hx := h x (by simp)
    rw [hj]
    simp only [List.length_append, List.length_cons] at ih ⊢
    rw [Nat.add_mul (r.length + 1) 1 (B + 1)]
    omega
theorem info9 : (Tryd.prog.info? 9).map (fun i => (i.zero, i.size, i.bytes)) = some (some (.string ByteArray.empty), 1, 16) := by kernel_rfl
theorem uTexts_take (us : List TV) (k : Nat) (h : k < us.length) : uTexts (us.take (k + 1)) = uTexts (us.take k) ++ [⟨(tokText us[k].1 us[k].2.1.data.toList).toArray⟩] := by
  unfold uTexts
  rw [List.take_add_one, List.getElem?_eq_getElem h, List.map_append]; rfl
set_option maxHeartbeats 3200000 in
theorem unlex_any (la : Option Addr) (lc : Nat) (us : List TV) (w : World) (hn : us.length ≤ maxLen) (hsz : ∀ t ∈ us, t.2.1.size ≤ 1048576) (hv : RT w (.slice la us.length lc) us) (hT : Tabs w) (hM : ML w) :
    Calls Tryd.prog 28 #[.slice la us.length lc] w fun e w' => e = .returned (.tuple #[.string (unlexR us).1, .int .i64 (unlexR us).2]) ∧ Below w.heap.size w w' := by
  unfold maxLen at hn
  obtain ⟨R, hR⟩ : ∃ R, R = unlexR us := ⟨_, rfl⟩
  rw [← hR]
  by_cases hbig : 2000 < us.length
  · have HR : Hid (R = (⟨#[]⟩, 1)) := by show R = _; rw [hR]; unfold unlexR; rw [if_pos (.inl hbig)]
    have hbi : (2000 : Int) < us.length := by omega
    clear hR
    go_enter Tryd.func28, Tryd.ntmps28
    go_wp2
    go_ret2
    refine ⟨?_, Below.refl _ _⟩
    rw [HR.out]; rfl
  · have hbi : ¬ (2000 : Int) < us.length := by omega
    obtain ⟨i0, hi, hz0, hz1, hz2⟩ := info_parts info9
    obtain ⟨a, cap, hsl, hcells⟩ := hv
    simp only [Value.slice.injEq] at hsl
    obtain ⟨rfl, _, rfl⟩ := hsl
    go_enter Tryd.func28, Tryd.ntmps28
    go_wp2
    go_loopw [4, 13] (fun v i wr => ∃ k : Nat, k ≤ us.length ∧ i = .int .i64 k ∧ Hid (∀ t ∈ us.take k, tokOK t.1 t.2.1.data.toList) ∧ wr.ownsRow w.heap.size 9 1 v k ((uTexts (us.take k)).map Value.string) ∧ Below w.heap.size w wr) (fun _ i _ => us.length - (intOf i).toNat)
    case atStart => exact ⟨0, Nat.zero_le _, rfl, fun t h => by simp at h, World.ownsRow_nil _ _ _ _, Below.refl _ _⟩
    case round =>
      obtain ⟨k, hk, rfl, HO, hown, hbel⟩ := hrel
      have hbs := hbel.size
      by_cases hlt : k < us.length
      · have hlti : (k : Int) < us.length := by omega
        obtain ⟨g, rfl, hg, hgc⟩ := hcells (by omega)
        obtain ⟨a0, a1, a2⟩ := hgc k hlt
        have c0 := (hbel.cell (p := ⟨g, k * 3, none⟩) hg).trans a0
        have c1 := (hbel.cell (p := ⟨g, k * 3 + 1, none⟩) hg).trans a1
        have c2 := (hbel.cell (p := ⟨g, k * 3 + 2, none⟩) hg).trans a2
        have hts := uTexts_take us k hlt
        have hin : us[k] ∈ us := List.getElem_mem hlt
        have hsx := hsz us[k] hin
        have htk : us.take (k + 1) = us.take k ++ [us[k]] := by rw [List.take_add_one, List.getElem?_eq_getElem hlt]; rfl
        have HNO : okB us[k].1 us[k].2.1.data.toList = false → Hid (R = (⟨#[]⟩, 1)) := fun z => by
          have hal : allOK us = false := by
            unfold allOK
            rw [List.all_eq_false]
            exact ⟨us[k], hin, by rw [z]; decide⟩
          show R = _
          rw [hR]; unfold unlexR; rw [if_pos (.inr hal)]
        have HYES : tokOK us[k].1 us[k].2.1.data.toList → Hid (∀ t ∈ us.take (k + 1), tokOK t.1 t.2.1.data.toList) := fun z t ht => by
          rw [htk] at ht
          rcases List.mem_append.1 ht with h | h
          · exact HO.out t h
          · rw [List.mem_singleton] at h; rw [h]; exact z
        clear a0 a1 a2 hgc hin
        obtain ⟨t, htt⟩ : ∃ t, us[k] = t := ⟨_, rfl⟩
        rw [htt] at c0 c1 c2 hts hsx HNO HYES
        clear htt htk
        obtain ⟨tk, tx, tp⟩ := t
        simp only at c0 c1 c2 hts hsx HNO HYES
        have hok := fun w hT hM => tokenOK_any tk tp tx w hsx hT hM
        have htx := fun w hM => tokenText_any tk tp tx w hsx hM
        have hTa : ∀ o, Tabs (wr.alloc o) := fun o => tabs_below hT (hbel.alloc hbs o)
        have hMa : ∀ o, ML (wr.alloc o) := fun o => hM.below (hbel.alloc hbs o)
        cases hb : okB tk tx.data.toList
        · have HR := HNO hb
          rw [hb] at hok
          clear HNO HYES hb
          go_wp2_with (go_at_call 47; refine (hok _ (hTa _) (hMa _)).mono ?_; rintro e w1 ⟨rfl, hb1⟩)
          go_ret2
          refine ⟨?_, (hbel.alloc hbs _).trans (hb1.mono (by simp; omega))⟩
          rw [HR.out]; rfl
        · have HY := HYES ((okB_iff _ _).1 hb)
          rw [hb] at hok
          clear HNO HYES hb
          obtain ⟨X, hX⟩ : ∃ X : ByteArray, X = ⟨(tokText tk tx.data.toList).toArray⟩ := ⟨_, rfl⟩
          rw [← hX] at htx hts
          have HTS : Hid (uTexts (us.take (k + 1)) = uTexts (us.take k) ++ [X]) := hts
          clear hX hts
          go_wp2_with (first | (go_at_call 47; refine (hok _ (hTa _) (hMa _)).mono ?_; rintro e w1 ⟨rfl, hb1⟩; obtain ⟨hc1, hf1⟩ := bcell hb1; have hz1w : wr.heap.size < w1.heap.size := (by have := hb1.size; simp at this; omega); have bw1 : Below w.heap.size w w1 := (hbel.alloc hbs _).trans (hb1.mono (by simp; omega)); have ho1 := own_below (hown.alloc _) hb1; have hM1 := hM.below bw1; clear hb1) | (go_at_call 48; refine (htx _ hM1).mono ?_; rintro e w2 ⟨rfl, hb2⟩; have hz2w : wr.heap.size < w2.heap.size := (by have := hb2.size; omega); have bw2 : Below w.heap.size w w2 := bw1.trans (hb2.mono (by omega)); have ho2 := own_below ho1 hb2; clear hb2) | (at_builtin; refine wpList_append_own _ rfl (.tmp 20) (.tmp 23) 86 rfl w.heap.size 9 i0 (.string ByteArray.empty) 1 16 Tryd.underlying86 hi hz0 hz1 hz2 rfl (by decide) _ k ((uTexts (us.take k)).map Value.string) rfl (ho2.alloc _) ⟨_, 0, none⟩ 1 1 [.string X] rfl rfl (cell_one_new _ _ _) (by intro u hu; simp at hu; subst hu; rfl) (by unfold maxLen; omega) (by omega) (by simp; omega) ?_; intro v' w3 hown' hgrow _))
          have HB3 : Hid (Below w.heap.size w w3) := (bw2.alloc (by omega) _).grown hgrow (by simp; omega) (fun k hk => (hown.lt k hk).1)
          have HO3 : Hid (w3.ownsRow w.heap.size 9 1 v' (k + 1) ((uTexts (us.take (k + 1))).map Value.string)) := by
            show w3.ownsRow w.heap.size 9 1 v' (k + 1) ((uTexts (us.take (k + 1))).map Value.string)
            rw [HTS.out]; simpa using hown'
          clear hown' hgrow
          go_roundw
          case rel => exact ⟨k + 1, by omega, by go_num, HY, HO3.out, HB3.out⟩
          case measure => simp [intOf]; omega
      · have hkn : k = us.length := by omega
        subst hkn
        rw [List.take_length] at hown HO
        have hal : allOK us = true := by
          unfold allOK
          rw [List.all_eq_true]
          exact fun t ht => (okB_iff _ _).2 (HO.out t ht)
        have htl : (uTexts us).length = us.length := by simp [uTexts]
        have hlen : (uText us).length ≤ us.length * 8001 := by
          have := join_len 8000 ((uTexts us).map (·.data.toList)) (fun x hx => by
            obtain ⟨b, hb, rfl⟩ := List.mem_map.1 hx
            unfold uTexts at hb
            obtain ⟨t, ht, rfl⟩ := List.mem_map.1 hb
            exact tokOK_small t.1 t.2.1 (HO.out t ht))
          rw [List.length_map, htl] at this
          exact this
        have hR2 : R = if 8000 < (uText us).length then (⟨#[]⟩, 5) else (⟨(uText us).toArray⟩, 0) := by
          rw [hR]; unfold unlexR; rw [if_neg (fun z => z.elim hbig (fun y => by rw [hal] at y; cases y))]
        have hj : Calls Tryd.prog 65 #[u4, .string ⟨#[32]⟩] wr fun e w' => e = .returned (.string ⟨(uText us).toArray⟩) ∧ Below wr.heap.size wr w' := by
          rcases hown.2 with ⟨rfl, h0⟩ | ⟨g, cap, cur, rfl, hg1, hg2, hg3, hg4, hg5, hg6⟩
          · have hnil : us = [] := List.eq_nil_of_length_eq_zero h0
            refine (Tryd.strings_Join_none none 0 ⟨#[32]⟩ wr).mono ?_
            rintro e w' ⟨rfl, rfl⟩
            exact ⟨by rw [hnil]; rfl, Below.refl _ _⟩
          · have hjj := Tryd.strings_Join g 0 cap (uTexts us) ⟨#[32]⟩ wr (fun j x hx => by
              have hjl : j < (uTexts us).length := (List.getElem?_eq_some_iff.1 hx).1
              have := hown.cellAt j (by omega)
              rw [Nat.zero_add, this, List.getElem?_map, hx]; rfl) (hown.lt g rfl).2 (by omega) (by omega) (by show (uText us).length ≤ _; omega)
            rw [htl] at hjj
            exact hjj
        obtain ⟨T, hTd⟩ : ∃ T : ByteArray, T = ⟨(uText us).toArray⟩ := ⟨_, rfl⟩
        rw [← hTd] at hj hR2
        have hTs : T.size = (uText us).length := by rw [hTd]; simp [ByteArray.size]
        rw [← hTs] at hR2 hlen
        clear hR hal htl hTd hTs hown
        have hlti : ¬ (us.length : Int) < us.length := by omega
        by_cases h8 : 8000 < T.size
        · have HR : Hid (R = (⟨#[]⟩, 5)) := by rw [if_pos h8] at hR2; exact hR2
          have h8i : (8000 : Int) < T.size := by omega
          clear hR2
          go_wp2_with (go_at_call 65; refine hj.mono ?_; rintro e w1 ⟨rfl, hb1⟩)
          go_ret2
          refine ⟨?_, hbel.trans (hb1.mono hbs)⟩
          rw [HR.out]; rfl
        · have HR : Hid (R = (T, 0)) := by rw [if_neg h8] at hR2; exact hR2
          have h8i : ¬ (8000 : Int) < T.size := by omega
          clear hR2
          go_wp2_with (go_at_call 65; refine hj.mono ?_; rintro e w1 ⟨rfl, hb1⟩)
          go_ret2
          refine ⟨?_, hbel.trans (hb1.mono hbs)⟩
          rw [HR.out]; rfl
end Go.Proofs.YtcgnkcehjcednaaDoor
namespace Go.Proofs.YtcgnkcehjcednaaDoor
open Go.ChangeShapes Go.WideShapes Go.ChangeAt Go.RowKit Go.Shelf
set_option linter.unusedVariables false
set_option linter.unusedSimpArgs false
set_option maxRecDepth 100000
theorem join_snoc (x : List UInt8) : ∀ l : List (List UInt8), l ≠ [] → Lib.join (l ++ [x]) [32] = Lib.join l [32] ++ [32] ++ x
  | [], h => absurd rfl h
  | y :: r, _ => by
    rw [List.cons_append, Lib.join_cons, Lib.join_cons]
    simp [Lib.joinTail]
theorem bcells_app (a b : List UInt8) : bcells (a ++ b) = bcells a ++ bcells b := by simp [bcells]
theorem strCells_b (s : ByteArray) : Lib.strCells s = bcells s.data.toList := by simp [Lib.strCells, bcells]
theorem uText_zero (us : List TV) : uText (us.take 0) = [] := by simp [uText, uTexts, Lib.join, List.intercalate]
theorem uText_one (us : List TV) (h : 0 < us.length) : uText (us.take 1) = tokText us[0].1 us[0].2.1.data.toList := by
  have := uTexts_take us 0 h
  unfold uText
  rw [this]
  simp [uTexts, Lib.join_one]
theorem uText_succ (us : List TV) (k : Nat) (h : k < us.length) (hk : 0 < k) : uText (us.take (k + 1)) = uText (us.take k) ++ [32] ++ tokText us[k].1 us[k].2.1.data.toList := by
  unfold uText
  rw [uTexts_take us k h, List.map_append]
  exact join_snoc _ _ (by
    intro z
    have e : ((uTexts (us.take k)).map (·.data.toList)).length = k := by
      rw [List.length_map]; unfold uTexts; rw [List.length_map, List.length_take]; omega
    rw [z] at e; simp at e; omega)
theorem uText_small (us : List TV) (k : Nat) (h : ∀ t ∈ us, tokOK t.1 t.2.1.data.toList) : (uText (us.take k)).length ≤ (us.take k).length * 8001 := by
  have := join_len 8000 ((uTexts (us.take k)).map (·.data.toList)) (fun x hx => by
    obtain ⟨b, hb, rfl⟩ := List.mem_map.1 hx
    unfold uTexts at hb
    obtain ⟨t, ht, rfl⟩ := List.mem_map.1 hb
    exact tokOK_small t.1 t.2.1 (h t (List.mem_of_mem_take ht)))
  rw [List.length_map] at this
  have e : (uTexts (us.take k)).length = (us.take k).length := by simp [uTexts]
  rw [e] at this
  exact this
theorem cell_one_new1 (w : World) (o : Obj) (v : Value) (t : Nat) : ∀ (j : Nat) (u : Value), [v][j]? = some u → ((w.alloc o).alloc (.cells #[v] t)).cell? (({ block := w.heap.size + 1, off := 0 } : Addr).add j) = some u := by
  have h := cell_one_new (w.alloc o) v t
  have e : (w.alloc o).heap.size = w.heap.size + 1 := by simp
  rw [e] at h
  exact h
set_option maxHeartbeats 3200000 in
theorem unlexS_any (la : Option Addr) (lc : Nat) (us : List TV) (w : World) (hn : us.length ≤ maxLen) (hsz : ∀ t ∈ us, t.2.1.size ≤ 1048576) (hv : RT w (.slice la us.length lc) us) :
    Calls Tryd.prog 26 #[.slice la us.length lc] w fun e w' => e = .returned (.tuple #[.string (unlexR us).1, .int .i64 (unlexR us).2]) ∧ Below w.heap.size w w' := by
  unfold maxLen at hn
  obtain ⟨R, hR⟩ : ∃ R, R = unlexR us := ⟨_, rfl⟩
  rw [← hR]
  by_cases hbig : 2000 < us.length
  · have HR : Hid (R = (⟨#[]⟩, 1)) := by show R = _; rw [hR]; unfold unlexR; rw [if_pos (.inl hbig)]
    have hbi : (2000 : Int) < us.length := by omega
    clear hR
    go_enter Tryd.func26, Tryd.ntmps26
    go_wp2
    go_ret2
    refine ⟨?_, Below.refl _ _⟩
    rw [HR.out]; rfl
  · have hbi : ¬ (2000 : Int) < us.length := by omega
    obtain ⟨i0, hi, hz0, hz1, hz2⟩ := info_parts info5
    obtain ⟨a, cap, hsl, hcells⟩ := hv
    simp only [Value.slice.injEq] at hsl
    obtain ⟨rfl, _, rfl⟩ := hsl
    go_enter Tryd.func26, Tryd.ntmps26
    go_wp2
    go_loopw [14] (fun i wr => ∃ k : Nat, k ≤ us.length ∧ i = .int .i64 k ∧ Hid (∀ t ∈ us.take k, tokOK t.1 t.2.1.data.toList) ∧ Below w.heap.size w wr) (fun i _ => us.length - (intOf i).toNat)
    case atStart => exact ⟨0, Nat.zero_le _, rfl, fun t h => by simp at h, Below.refl _ _⟩
    case round =>
      obtain ⟨k, hk, rfl, HO, hbel⟩ := hrel
      have hbs := hbel.size
      by_cases hlt : k < us.length
      · have hlti : (k : Int) < us.length := by omega
        obtain ⟨g, rfl, hg, hgc⟩ := hcells (by omega)
        obtain ⟨a0, a1, a2⟩ := hgc k hlt
        have c0 := (hbel.cell (p := ⟨g, k * 3, none⟩) hg).trans a0
        have c1 := (hbel.cell (p := ⟨g, k * 3 + 1, none⟩) hg).trans a1
        have c2 := (hbel.cell (p := ⟨g, k * 3 + 2, none⟩) hg).trans a2
        have hin : us[k] ∈ us := List.getElem_mem hlt
        have hsx := hsz us[k] hin
        have htk : us.take (k + 1) = us.take k ++ [us[k]] := by rw [List.take_add_one, List.getElem?_eq_getElem hlt]; rfl
        have HNO : okB us[k].1 us[k].2.1.data.toList = false → Hid (R = (⟨#[]⟩, 1)) := fun z => by
          have hal : allOK us = false := by
            unfold allOK
            rw [List.all_eq_false]
            exact ⟨us[k], hin, by rw [z]; decide⟩
          show R = _
          rw [hR]; unfold unlexR; rw [if_pos (.inr hal)]
        have HYES : tokOK us[k].1 us[k].2.1.data.toList → Hid (∀ t ∈ us.take (k + 1), tokOK t.1 t.2.1.data.toList) := fun z t ht => by
          rw [htk] at ht
          rcases List.mem_append.1 ht with h | h
          · exact HO.out t h
          · rw [List.mem_singleton] at h; rw [h]; exact z
        clear a0 a1 a2 hgc hin
        obtain ⟨t, htt⟩ : ∃ t, us[k] = t := ⟨_, rfl⟩
        rw [htt] at c0 c1 c2 hsx HNO HYES
        clear htt htk
        obtain ⟨tk, tx, tp⟩ := t
        simp only at c0 c1 c2 hsx HNO HYES
        have hok := fun w => tokenOKS_any tk tp tx w hsx
        cases hb : okB tk tx.data.toList
        · have HR := HNO hb
          rw [hb] at hok
          clear HNO HYES hb
          go_wp2_with (go_at_call 62; refine (hok _).mono ?_; rintro e w1 ⟨rfl, hb1⟩)
          go_ret2
          refine ⟨?_, (hbel.alloc hbs _).trans (hb1.mono (by simp; omega))⟩
          rw [HR.out]; rfl
        · have HY := HYES ((okB_iff _ _).1 hb)
          rw [hb] at hok
          clear HNO HYES hb
          go_wp2_with (go_at_call 62; refine (hok _).mono ?_; rintro e w1 ⟨rfl, hb1⟩)
          go_roundw
          case rel => exact ⟨k + 1, by omega, by go_num, HY, (hbel.alloc hbs _).trans (hb1.mono (by simp; omega))⟩
          case measure => simp [intOf]; omega
      · have hkn : k = us.length := by omega
        subst hkn
        rw [List.take_length] at HO
        have hal : allOK us = true := by
          unfold allOK
          rw [List.all_eq_true]
          exact fun t ht => (okB_iff _ _).2 (HO.out t ht)
        have HR2 : Hid (R = if 8000 < (uText us).length then (⟨#[]⟩, 5) else (⟨(uText us).toArray⟩, 0)) := by
          show R = _
          rw [hR]; unfold unlexR; rw [if_neg (fun z => z.elim hbig (fun y => by rw [hal] at y; cases y))]
        clear hR hal
        have hlti : ¬ (us.length : Int) < us.length := by omega
        go_wp2
        go_loopw [6, 25] (fun v i wx => ∃ k : Nat, k ≤ us.length ∧ i = .int .i64 k ∧ wx.ownsRow w.heap.size 5 1 v (uText (us.take k)).length (bcells (uText (us.take k))) ∧ Below w.heap.size w wx) (fun _ i _ => us.length - (intOf i).toNat)
        case atStart =>
          refine ⟨0, Nat.zero_le _, rfl, ?_, hbel.alloc hbs _⟩
          rw [uText_zero]
          exact World.ownsRow_made wr #[] 0 hbs (by unfold maxLen; omega) (by simp)
        case round =>
          obtain ⟨k, hk, rfl, hown, hbx⟩ := hrel
          have hxs := hbx.size
          have hsm := uText_small us k HO.out
          have hsk : (us.take k).length ≤ 2000 := by rw [List.length_take]; omega
          by_cases hlt : k < us.length
          · have hlti2 : (k : Int) < us.length := by omega
            obtain ⟨g, rfl, hg, hgc⟩ := hcells (by omega)
            obtain ⟨a0, a1, a2⟩ := hgc k hlt
            have c0 := (hbx.cell (p := ⟨g, k * 3, none⟩) hg).trans a0
            have c1 := (hbx.cell (p := ⟨g, k * 3 + 1, none⟩) hg).trans a1
            have c2 := (hbx.cell (p := ⟨g, k * 3 + 2, none⟩) hg).trans a2
            have hin : us[k] ∈ us := List.getElem_mem hlt
            have hsx := hsz us[k] hin
            have hok1 := HO.out us[k] hin
            have hst := tokOK_small us[k].1 us[k].2.1 hok1
            have h1 := fun h => uText_one us h
            have h2 := uText_succ us k hlt
            have HU0 : k = 0 → Hid (uText (us.take (k + 1)) = tokText us[k].1 us[k].2.1.data.toList) := fun z => by subst z; exact h1 hlt
            have HUS : 0 < k → Hid (uText (us.take (k + 1)) = uText (us.take k) ++ [32] ++ tokText us[k].1 us[k].2.1.data.toList) := fun z => h2 z
            clear a0 a1 a2 hgc hin h1 h2 hok1
            obtain ⟨t, htt⟩ : ∃ t, us[k] = t := ⟨_, rfl⟩
            rw [htt] at c0 c1 c2 hsx hst HU0 HUS
            clear htt
            obtain ⟨tk, tx, tp⟩ := t
            simp only at c0 c1 c2 hsx hst HU0 HUS
            have htx := fun w => tokenTextS_any tk tp tx w hsx
            obtain ⟨X, hX⟩ : ∃ X : ByteArray, X = ⟨(tokText tk tx.data.toList).toArray⟩ := ⟨_, rfl⟩
            rw [← hX] at htx
            have hXd : tokText tk tx.data.toList = X.data.toList := by rw [hX]
            rw [hXd] at hst HU0 HUS
            have hXl : X.data.toList.length = X.size := by simp
            rw [hXl] at hst
            clear hX hXd hXl
            have hal : (uText (us.take k)).length ≤ 100000000 := by omega
            by_cases h0 : k = 0
            · have HU := HU0 h0
              subst h0
              rw [uText_zero] at hown
              clear HU0 HUS hsm hal
              go_wp2_with (first | (go_at_call 63; refine (htx _).mono ?_; rintro e w1 ⟨rfl, hb1⟩; have ho1 := own_below (hown.alloc _) hb1; have bw1 : Below w.heap.size w w1 := (hbx.alloc hxs _).trans (hb1.mono (by simp; omega)); have hzz : w.heap.size ≤ w1.heap.size := bw1.size; clear hb1) | (at_builtin; refine Lib.wpList_append_own_string _ rfl (.tmp 35) (.tmp 37) 44 9 rfl w.heap.size 5 i0 Tryd.underlying44 Tryd.underlying9 hi hz0 hz1 hz2 _ _ _ rfl ho1 X rfl (by simp; unfold maxLen; omega) (by simp; omega) hzz ?_; intro v' w3 hown' hgrow _))
              have HB3 : Hid (Below w.heap.size w w3) := bw1.grown hgrow hzz (fun k hk => (hown.lt k hk).1)
              have HO3 : Hid (w3.ownsRow w.heap.size 5 1 v' (uText (us.take (0 + 1))).length (bcells (uText (us.take (0 + 1))))) := by
                show w3.ownsRow w.heap.size 5 1 v' (uText (us.take (0 + 1))).length (bcells (uText (us.take (0 + 1))))
                rw [HU.out]
                rw [strCells_b] at hown'
                simpa [bcells] using hown'
              clear hown' hgrow
              go_roundw
              case rel => exact ⟨0 + 1, by omega, by go_num, HO3.out, HB3.out⟩
              case measure => simp [intOf]; omega
            · have HU := HUS (by omega)
              have h0i : (0 : Int) < k := by omega
              have h0n : 0 < k := by omega
              obtain ⟨acc, hacc⟩ : ∃ acc, uText (us.take k) = acc := ⟨_, rfl⟩
              rw [hacc] at hown HU hal
              clear HU0 HUS hsm hacc
              go_wp2_with (first | (at_builtin; refine wpList_append_own _ rfl (.tmp 32) (.tmp 33) 44 rfl w.heap.size 5 i0 (.int .u8 0) 1 1 Tryd.underlying44 hi hz0 hz1 hz2 rfl (by decide) _ acc.length (bcells acc) rfl ((hown.alloc _).alloc _) ⟨_, 0, none⟩ 1 1 [.int .u8 32] rfl rfl (cell_one_new1 _ _ _ _) (by intro u hu; simp at hu; subst hu; rfl) (by unfold maxLen; omega) (by omega) (by simp; omega) ?_; intro v1 w0 ho0 hg0 _; have bw0 : Below w.heap.size w w0 := ((hbx.alloc hxs _).alloc (by simp; omega) _).grown hg0 (by simp; omega) (fun k hk => (hown.lt k hk).1); have hz0w := bw0.size; have ld0 := World.cell?_of_block (a := ⟨wr.heap.size, 0, none⟩) (hg0.block wr.heap.size (by simp; omega) (fun z => by have := (hown.lt _ z.symm).2; omega)); have ld1 := World.cell?_of_block (a := ⟨wr.heap.size, 1, none⟩) (hg0.block wr.heap.size (by simp; omega) (fun z => by have := (hown.lt _ z.symm).2; omega)); have ld2 := World.cell?_of_block (a := ⟨wr.heap.size, 2, none⟩) (hg0.block wr.heap.size (by simp; omega) (fun z => by have := (hown.lt _ z.symm).2; omega))) | (go_at_call 63; refine (htx _).mono ?_; rintro e w1 ⟨rfl, hb1⟩; have ho1 := own_below ho0 hb1; have bw1 : Below w.heap.size w w1 := bw0.trans (hb1.mono hz0w); have hzz : w.heap.size ≤ w1.heap.size := bw1.size; clear hb1) | (at_builtin; refine Lib.wpList_append_own_string _ rfl (.tmp 35) (.tmp 37) 44 9 rfl w.heap.size 5 i0 Tryd.underlying44 Tryd.underlying9 hi hz0 hz1 hz2 _ _ _ rfl ho1 X rfl (by unfold maxLen; omega) (by omega) hzz ?_; intro v' w3 hown' hgrow _))
              have HB3 : Hid (Below w.heap.size w w3) := bw1.grown hgrow hzz (fun k hk => (ho0.lt k hk).1)
              have HO3 : Hid (w3.ownsRow w.heap.size 5 1 v' (uText (us.take (k + 1))).length (bcells (uText (us.take (k + 1))))) := by
                show w3.ownsRow w.heap.size 5 1 v' (uText (us.take (k + 1))).length (bcells (uText (us.take (k + 1))))
                rw [HU.out]
                rw [strCells_b] at hown'
                simpa [bcells, Nat.add_assoc, Nat.add_comm 1 X.size] using hown'
              clear hown' hgrow
              go_roundw
              case rel => exact ⟨k + 1, by omega, by go_num, HO3.out, HB3.out⟩
              case measure => simp [intOf]; omega
          · have hkn : k = us.length := by omega
            subst hkn
            rw [List.take_length] at hown hsm
            obtain ⟨la5, lc5, hu5⟩ := owns_slice hown
            subst hu5
            have hcv := conv_own _ _ _ _ hown
            have hll : (uText us).length ≤ 100000000 := by rw [List.take_length] at hsk; omega
            obtain ⟨T, hTd⟩ : ∃ T : ByteArray, T = ⟨(uText us).toArray⟩ := ⟨_, rfl⟩
            rw [← hTd] at hcv
            have HR3 : Hid (R = if 8000 < (uText us).length then (⟨#[]⟩, 5) else (T, 0)) := by show R = _; rw [HR2.out, hTd]
            clear HR2 hTd hown hsm
            generalize (uText us).length = L at *
            by_cases h8 : 8000 < L
            · have HR : Hid (R = (⟨#[]⟩, 5)) := by have := HR3.out; rw [if_pos h8] at this; exact this
              have h8i : (8000 : Int) < L := by omega
              clear HR3
              go_wp2
              go_ret2
              refine ⟨?_, hbx⟩
              rw [HR.out]; rfl
            · have HR : Hid (R = (T, 0)) := by have := HR3.out; rw [if_neg h8] at this; exact this
              have h8i : ¬ (8000 : Int) < L := by omega
              clear HR3
              go_wp2
              go_ret2
              refine ⟨?_, hbx⟩
              rw [HR.out]; rfl
end Go.Proofs.YtcgnkcehjcednaaDoor
