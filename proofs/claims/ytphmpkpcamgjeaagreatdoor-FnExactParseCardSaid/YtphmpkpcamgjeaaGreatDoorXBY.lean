import Derived.Test.YtphmpkpcamgjeaaGreatDoorRows
import Derived.Test.YtphmpkpcamgjeaaGreatDoorXAB
import Derived.WalkKit
import Derived.ProofKit
import Derived.OpenShut
import Derived.WalkLawsBesides
import Derived.Deep.Light
import Derived.WalkSpells
set_option linter.unusedVariables false
set_option linter.unusedSimpArgs false
set_option maxRecDepth 100000
set_option maxHeartbeats 40000000
namespace Go.Proofs.YtphmpkpcamgjeaaGreatDoor.Lx
open Go.ChangeShapes Go.WideShapes Go.ChangeAt Go.RowKit Go.Proofs.Tryz
theorem info3 : (Tryz.prog.info? 3).map (fun i => (i.zero, i.size, i.bytes)) = some (some (.int .i64 0), 1, 8) := by kernel_rfl
def b1z (s : ByteArray) (w : World) (v i : Value) (wr : World) : Prop :=
 ∃ (pos b : Nat) (acc : List Int), i = .int .i64 pos /\ pos <= s.size /\ s.size <= pos + b /\ acc.length <= pos /\ (chF s b pos).map (acc ++ ·) = a2g s /\ wr.ownsRow w.heap.size 3 1 v acc.length (acc.map (Value.int .i64)) /\ Below w.heap.size w wr
def CharsPost (s : ByteArray) (w : World) (e : Ending) (w' : World) : Prop :=
    (∃ (cs : List Int) (v : Value), a2g s = some cs /\ e = .returned (.tuple #[v, .bool true]) /\ w'.ownsRow w.heap.size 3 1 v cs.length (cs.map (Value.int .i64)) /\ Below w.heap.size w w') \/
    (∃ a, a2g s = none /\ e = .returned (.tuple #[.slice a 0 0, .bool false]) /\ Below w.heap.size w w')
theorem CharsPost.good {s : ByteArray} {w w' : World} {cs : List Int} {v : Value} (h : a2g s = some cs) (ho : w'.ownsRow w.heap.size 3 1 v cs.length (cs.map (Value.int .i64))) (hb : Below w.heap.size w w') : CharsPost s w (.returned (.tuple #[v, .bool true])) w' :=
 .inl ⟨cs, v, h, rfl, ho, hb⟩
theorem CharsPost.bad {s : ByteArray} {w w' : World} {a : Option Addr} (h : a2g s = none) (hb : Below w.heap.size w w') : CharsPost s w (.returned (.tuple #[.slice a 0 0, .bool false])) w' :=
 .inr ⟨a, h, rfl, hb⟩
theorem rel_step (s : ByteArray) (w wr w1 : World) (v v' : Value) (pos b n : Nat) (acc : List Int) (c : Int) (o : Obj) (h : pos < s.size) (hp : pos <= s.size) (hb : s.size <= pos + b) (hacc : acc.length <= pos)
 (hd : Utf8.decode s pos = (c.toNat, n)) (hc : 0 <= c) (hn : ¬ (c = 65533 /\ n = 1)) (hn1 : 1 <= n) (hps : pos + n <= s.size) (hm : (chF s b pos).map (acc ++ ·) = a2g s)
 (hown : wr.ownsRow w.heap.size 3 1 v acc.length (acc.map (Value.int .i64))) (hbel : Below w.heap.size w wr)
 (hown' : w1.ownsRow w.heap.size 3 1 v' (acc.length + 1) (acc.map (Value.int .i64) ++ [.int .i64 c])) (hgrow : (wr.alloc o).grownBy w1 v.ownBlock) : b1z s w v' (.int .i64 ((pos : Int) + n)) w1 := by
 refine ⟨pos + n, b - 1, acc ++ [c], by go_num, hps, by omega, by simp; omega, b4O s b pos acc c n h hb hd hc hn hn1 hm, by simpa using hown', ?_⟩
 exact (hbel.alloc hbel.size o).grown hgrow (by have := hbel.size; simp; omega) (fun j hj => by have := (hown.lt j hj).1; omega)
set_option maxRecDepth 100000 in
theorem a8k (s : ByteArray) (w : World) (hs : s.size <= 1048576) : Calls Tryz.prog 47 #[.string s] w fun e w' => CharsPost s w e w' := by
 obtain ⟨i0, hi, hz0, hz1, hz2⟩ := info_parts info3
 go_enter Tryz.func47, Tryz.ntmps47
 go_wp2
 go_loopw [4, 5] (fun v i wr => b1z s w v i wr) (fun _ i _ => s.size - (intOf i).toNat)
 case atStart => exact ⟨0, s.size, [], rfl, by omega, by omega, by simp, by simp [a2g], World.ownsRow_made w #[] 0 (Nat.le_refl _) (by unfold maxLen; omega) (by simp), (Below.refl _ _).alloc (Nat.le_refl _) _⟩
 case round =>
  obtain ⟨pos, b, acc, rfl, hp, hb, hacc, hmap, hown, hbel⟩ := hrel
  have HM : Hid ((chF s b pos).map (acc ++ ·) = a2g s) := hmap
  clear hmap
  by_cases hlt : pos < s.size
  .by_cases cA : ((s[pos]'hlt).toNat : Int) < 128
   .go_wp2_with (at_builtin; refine wpList_append_own _ rfl (.tmp 24) (.tmp 26) 37 rfl w.heap.size 3 i0 (.int .i64 0) 1 8 Tryz.underlying37 hi hz0 hz1 hz2 rfl (by decide) _ _ _ rfl (hown.alloc _) ⟨wr.heap.size, 0, none⟩ 1 1 [.int .i64 ((s[pos]'hlt).toNat : Int)] rfl rfl (cell_one_new _ _ _) (by intro u hu; simp at hu; subst hu; rfl) (by unfold maxLen; omega) (by omega) (by have := hbel.size; simp; omega) ?_; intro v' w1 hown' hgrow _)
    .skip
     have R := rel_step s w wr w1 _ v' pos b 1 acc _ _ hlt hp hb hacc (b9v s pos hlt cA) (by omega) (by omega) (by omega) (by omega) HM.out hown hbel hown' hgrow
     clear hown' hgrow hown hbel
     go_wp2
     go_roundw
     case rel => exact R
     case measure => simp [intOf]; omega
   .have hb256 := (s[pos]'hlt).toNat_lt
    by_cases cE : ((s[pos]'hlt).toNat : Int) < 194
    .go_wp2
     go_ret2
     exact CharsPost.bad (a1K s b pos acc hlt hb (b8s s pos hlt (by omega)) HM.out) (hbel.alloc hbel.size _)
    by_cases cB : ((s[pos]'hlt).toNat : Int) < 224
    .have hcl : cls ((s[pos]'hlt).toNat : Int) 1 128 192 := by unfold cls; omega
     have HC : Hid (cls ((s[pos]'hlt).toNat : Int) 1 128 192) := hcl
     clear hcl
     by_cases hsz : pos + 1 < s.size
     .have hsz' : (pos : Int) + 1 < s.size := by omega
      go_wp2
      go_loop [6, 9] (fun c k => ∃ j : Nat, j <= 1 /\ k = .int .i64 (j + 1 : Nat) /\ a2J s pos j /\ c = .int .i64 (ext s pos (((s[pos]'hlt).toNat : Int) - 192) j)) (fun _ k => (1 + 1 - intOf k).toNat)
      case atStart => exact ⟨0, by omega, by go_num, a3O _ _, rfl⟩
      case round =>
       obtain ⟨j, hj, rfl, hct, rfl⟩ := hrel
       have CT : Hid (a2J s pos j) := hct
       have eb := b2O s pos (((s[pos]'hlt).toNat : Int) - 192) j hct (by omega) (by omega) (by omega)
       clear hct
       by_cases hjn : j < 1
       .have hix : pos + (j + 1) < s.size := by omega
        have hix' : pos + j + 1 < s.size := by omega
        have ES : Hid (ext s pos (((s[pos]'hlt).toNat : Int) - 192) (j + 1) = ext s pos (((s[pos]'hlt).toNat : Int) - 192) j * 64 + ((s[pos + (j + 1)]'hix).toNat : Int) - 128) := a6v s pos _ j hix
        have hub := (s[pos + (j + 1)]'hix).toNat_lt
        by_cases hlo : ((s[pos + (j + 1)]'hix).toNat : Int) < 128
        .go_wp2
         go_ret2
         exact CharsPost.bad (a1K s b pos acc hlt hb (a3F s pos 1 (j + 1) hlt (a1L HC.out) (by omega) (by omega) hix (.inl hlo)) HM.out) (hbel.alloc hbel.size _)
        .by_cases hhi : 191 < ((s[pos + (j + 1)]'hix).toNat : Int)
         .go_wp2
          go_ret2
          exact CharsPost.bad (a1K s b pos acc hlt hb (a3F s pos 1 (j + 1) hlt (a1L HC.out) (by omega) (by omega) hix (.inr hhi)) HM.out) (hbel.alloc hbel.size _)
         .go_wp2
          go_round
          case rel => exact ⟨j + 1, by omega, by go_num, a3P CT.out hix (by omega) (by omega), by rw [ES.out]⟩
          case measure => simp [intOf]; omega
       .have ej : j = 1 := by omega
        have CTN : Hid (a2J s pos 1) := by have := CT.out; rw [ej] at this; exact this
        have ED := a8l s pos 1 128 192 hlt HC.out hsz CTN.out _ rfl
        have EDH : Hid (Utf8.decode s pos = if ext s pos (((s[pos]'hlt).toNat : Int) - 192) 1 < 128 \/ 1114111 < ext s pos (((s[pos]'hlt).toNat : Int) - 192) 1 \/ (55296 <= ext s pos (((s[pos]'hlt).toNat : Int) - 192) 1 /\ ext s pos (((s[pos]'hlt).toNat : Int) - 192) 1 <= 57343) then (65533, 1) else ((ext s pos (((s[pos]'hlt).toNat : Int) - 192) 1).toNat, 1 + 1)) := ED
        clear ED CT
        subst ej
        generalize ext s pos (((s[pos]'hlt).toNat : Int) - 192) 1 = c at *
        by_cases hbad : c < 128 \/ 1114111 < c \/ (55296 <= c /\ c <= 57343)
        .have EB : Hid (a2g s = none) := a1K s b pos acc hlt hb (by rw [EDH.out, if_pos hbad]) HM.out
         clear EDH
         by_cases h1 : c < 128
         .clear hbad
          go_wp2
          go_ret2
          exact CharsPost.bad EB.out (hbel.alloc hbel.size _)
         by_cases h2 : 1114111 < c
         .clear hbad
          go_wp2
          go_ret2
          exact CharsPost.bad EB.out (hbel.alloc hbel.size _)
         .have h3 : 55296 <= c := by omega
          have h4 : c <= 57343 := by omega
          clear hbad
          go_wp2
          go_ret2
          exact CharsPost.bad EB.out (hbel.alloc hbel.size _)
        .have EB : Hid (Utf8.decode s pos = (c.toNat, 1 + 1)) := (by rw [EDH.out, if_neg hbad] : Utf8.decode s pos = (c.toNat, 1 + 1))
         clear EDH
         have h1 : ¬ c < 128 := by omega
         have h2 : ¬ 1114111 < c := by omega
         by_cases h3 : 55296 <= c
         .have h4 : ¬ c <= 57343 := by omega
          clear hbad
          go_wp2_with (at_builtin; refine wpList_append_own _ rfl (.tmp 103) (.tmp 105) 37 rfl w.heap.size 3 i0 (.int .i64 0) 1 8 Tryz.underlying37 hi hz0 hz1 hz2 rfl (by decide) _ _ _ rfl (hown.alloc _) ⟨wr.heap.size, 0, none⟩ 1 1 [.int .i64 c] rfl rfl (cell_one_new _ _ _) (by intro u hu; simp at hu; subst hu; rfl) (by unfold maxLen; omega) (by omega) (by have := hbel.size; simp; omega) ?_; intro v' w1 hown' hgrow _)
          .skip
           have R := rel_step s w wr w1 _ v' pos b (1 + 1) acc _ _ hlt hp hb hacc EB.out (by omega) (by omega) (by omega) (by omega) HM.out hown hbel hown' hgrow
           clear hown' hgrow hown hbel
           go_wp2
           go_roundw
           case rel => exact R
           case measure => simp [intOf]; omega
         .clear hbad
          go_wp2_with (at_builtin; refine wpList_append_own _ rfl (.tmp 103) (.tmp 105) 37 rfl w.heap.size 3 i0 (.int .i64 0) 1 8 Tryz.underlying37 hi hz0 hz1 hz2 rfl (by decide) _ _ _ rfl (hown.alloc _) ⟨wr.heap.size, 0, none⟩ 1 1 [.int .i64 c] rfl rfl (cell_one_new _ _ _) (by intro u hu; simp at hu; subst hu; rfl) (by unfold maxLen; omega) (by omega) (by have := hbel.size; simp; omega) ?_; intro v' w1 hown' hgrow _)
          .skip
           have R := rel_step s w wr w1 _ v' pos b (1 + 1) acc _ _ hlt hp hb hacc EB.out (by omega) (by omega) (by omega) (by omega) HM.out hown hbel hown' hgrow
           clear hown' hgrow hown hbel
           go_wp2
           go_roundw
           case rel => exact R
           case measure => simp [intOf]; omega
     .have hsz' : ¬ ((pos : Int) + 1 < s.size) := by omega
      go_wp2
      go_ret2
      exact CharsPost.bad (a1K s b pos acc hlt hb (a5k s pos 1 hlt (a1L HC.out) (by omega)) HM.out) (hbel.alloc hbel.size _)
    by_cases cC : ((s[pos]'hlt).toNat : Int) < 240
    .have hcl : cls ((s[pos]'hlt).toNat : Int) 2 2048 224 := by unfold cls; omega
     have HC : Hid (cls ((s[pos]'hlt).toNat : Int) 2 2048 224) := hcl
     clear hcl
     by_cases hsz : pos + 2 < s.size
     .have hsz' : (pos : Int) + 2 < s.size := by omega
      go_wp2
      go_loop [6, 9] (fun c k => ∃ j : Nat, j <= 2 /\ k = .int .i64 (j + 1 : Nat) /\ a2J s pos j /\ c = .int .i64 (ext s pos (((s[pos]'hlt).toNat : Int) - 224) j)) (fun _ k => (2 + 1 - intOf k).toNat)
      case atStart => exact ⟨0, by omega, by go_num, a3O _ _, rfl⟩
      case round =>
       obtain ⟨j, hj, rfl, hct, rfl⟩ := hrel
       have CT : Hid (a2J s pos j) := hct
       have eb := b2O s pos (((s[pos]'hlt).toNat : Int) - 224) j hct (by omega) (by omega) (by omega)
       clear hct
       by_cases hjn : j < 2
       .have hix : pos + (j + 1) < s.size := by omega
        have hix' : pos + j + 1 < s.size := by omega
        have ES : Hid (ext s pos (((s[pos]'hlt).toNat : Int) - 224) (j + 1) = ext s pos (((s[pos]'hlt).toNat : Int) - 224) j * 64 + ((s[pos + (j + 1)]'hix).toNat : Int) - 128) := a6v s pos _ j hix
        have hub := (s[pos + (j + 1)]'hix).toNat_lt
        by_cases hlo : ((s[pos + (j + 1)]'hix).toNat : Int) < 128
        .go_wp2
         go_ret2
         exact CharsPost.bad (a1K s b pos acc hlt hb (a3F s pos 2 (j + 1) hlt (a1L HC.out) (by omega) (by omega) hix (.inl hlo)) HM.out) (hbel.alloc hbel.size _)
        .by_cases hhi : 191 < ((s[pos + (j + 1)]'hix).toNat : Int)
         .go_wp2
          go_ret2
          exact CharsPost.bad (a1K s b pos acc hlt hb (a3F s pos 2 (j + 1) hlt (a1L HC.out) (by omega) (by omega) hix (.inr hhi)) HM.out) (hbel.alloc hbel.size _)
         .go_wp2
          go_round
          case rel => exact ⟨j + 1, by omega, by go_num, a3P CT.out hix (by omega) (by omega), by rw [ES.out]⟩
          case measure => simp [intOf]; omega
       .have ej : j = 2 := by omega
        have CTN : Hid (a2J s pos 2) := by have := CT.out; rw [ej] at this; exact this
        have ED := a8l s pos 2 2048 224 hlt HC.out hsz CTN.out _ rfl
        have EDH : Hid (Utf8.decode s pos = if ext s pos (((s[pos]'hlt).toNat : Int) - 224) 2 < 2048 \/ 1114111 < ext s pos (((s[pos]'hlt).toNat : Int) - 224) 2 \/ (55296 <= ext s pos (((s[pos]'hlt).toNat : Int) - 224) 2 /\ ext s pos (((s[pos]'hlt).toNat : Int) - 224) 2 <= 57343) then (65533, 1) else ((ext s pos (((s[pos]'hlt).toNat : Int) - 224) 2).toNat, 2 + 1)) := ED
        clear ED CT
        subst ej
        generalize ext s pos (((s[pos]'hlt).toNat : Int) - 224) 2 = c at *
        by_cases hbad : c < 2048 \/ 1114111 < c \/ (55296 <= c /\ c <= 57343)
        .have EB : Hid (a2g s = none) := a1K s b pos acc hlt hb (by rw [EDH.out, if_pos hbad]) HM.out
         clear EDH
         by_cases h1 : c < 2048
         .clear hbad
          go_wp2
          go_ret2
          exact CharsPost.bad EB.out (hbel.alloc hbel.size _)
         by_cases h2 : 1114111 < c
         .clear hbad
          go_wp2
          go_ret2
          exact CharsPost.bad EB.out (hbel.alloc hbel.size _)
         .have h3 : 55296 <= c := by omega
          have h4 : c <= 57343 := by omega
          clear hbad
          go_wp2
          go_ret2
          exact CharsPost.bad EB.out (hbel.alloc hbel.size _)
        .have EB : Hid (Utf8.decode s pos = (c.toNat, 2 + 1)) := (by rw [EDH.out, if_neg hbad] : Utf8.decode s pos = (c.toNat, 2 + 1))
         clear EDH
         have h1 : ¬ c < 2048 := by omega
         have h2 : ¬ 1114111 < c := by omega
         by_cases h3 : 55296 <= c
         .have h4 : ¬ c <= 57343 := by omega
          clear hbad
          go_wp2_with (at_builtin; refine wpList_append_own _ rfl (.tmp 103) (.tmp 105) 37 rfl w.heap.size 3 i0 (.int .i64 0) 1 8 Tryz.underlying37 hi hz0 hz1 hz2 rfl (by decide) _ _ _ rfl (hown.alloc _) ⟨wr.heap.size, 0, none⟩ 1 1 [.int .i64 c] rfl rfl (cell_one_new _ _ _) (by intro u hu; simp at hu; subst hu; rfl) (by unfold maxLen; omega) (by omega) (by have := hbel.size; simp; omega) ?_; intro v' w1 hown' hgrow _)
          .skip
           have R := rel_step s w wr w1 _ v' pos b (2 + 1) acc _ _ hlt hp hb hacc EB.out (by omega) (by omega) (by omega) (by omega) HM.out hown hbel hown' hgrow
           clear hown' hgrow hown hbel
           go_wp2
           go_roundw
           case rel => exact R
           case measure => simp [intOf]; omega
         .clear hbad
          go_wp2_with (at_builtin; refine wpList_append_own _ rfl (.tmp 103) (.tmp 105) 37 rfl w.heap.size 3 i0 (.int .i64 0) 1 8 Tryz.underlying37 hi hz0 hz1 hz2 rfl (by decide) _ _ _ rfl (hown.alloc _) ⟨wr.heap.size, 0, none⟩ 1 1 [.int .i64 c] rfl rfl (cell_one_new _ _ _) (by intro u hu; simp at hu; subst hu; rfl) (by unfold maxLen; omega) (by omega) (by have := hbel.size; simp; omega) ?_; intro v' w1 hown' hgrow _)
          .skip
           have R := rel_step s w wr w1 _ v' pos b (2 + 1) acc _ _ hlt hp hb hacc EB.out (by omega) (by omega) (by omega) (by omega) HM.out hown hbel hown' hgrow
           clear hown' hgrow hown hbel
           go_wp2
           go_roundw
           case rel => exact R
           case measure => simp [intOf]; omega
     .have hsz' : ¬ ((pos : Int) + 2 < s.size) := by omega
      go_wp2
      go_ret2
      exact CharsPost.bad (a1K s b pos acc hlt hb (a5k s pos 2 hlt (a1L HC.out) (by omega)) HM.out) (hbel.alloc hbel.size _)
    by_cases cD : ((s[pos]'hlt).toNat : Int) < 245
    .have hcl : cls ((s[pos]'hlt).toNat : Int) 3 65536 240 := by unfold cls; omega
     have HC : Hid (cls ((s[pos]'hlt).toNat : Int) 3 65536 240) := hcl
     clear hcl
     by_cases hsz : pos + 3 < s.size
     .have hsz' : (pos : Int) + 3 < s.size := by omega
      go_wp2
      go_loop [6, 9] (fun c k => ∃ j : Nat, j <= 3 /\ k = .int .i64 (j + 1 : Nat) /\ a2J s pos j /\ c = .int .i64 (ext s pos (((s[pos]'hlt).toNat : Int) - 240) j)) (fun _ k => (3 + 1 - intOf k).toNat)
      case atStart => exact ⟨0, by omega, by go_num, a3O _ _, rfl⟩
      case round =>
       obtain ⟨j, hj, rfl, hct, rfl⟩ := hrel
       have CT : Hid (a2J s pos j) := hct
       have eb := b2O s pos (((s[pos]'hlt).toNat : Int) - 240) j hct (by omega) (by omega) (by omega)
       clear hct
       by_cases hjn : j < 3
       .have hix : pos + (j + 1) < s.size := by omega
        have hix' : pos + j + 1 < s.size := by omega
        have ES : Hid (ext s pos (((s[pos]'hlt).toNat : Int) - 240) (j + 1) = ext s pos (((s[pos]'hlt).toNat : Int) - 240) j * 64 + ((s[pos + (j + 1)]'hix).toNat : Int) - 128) := a6v s pos _ j hix
        have hub := (s[pos + (j + 1)]'hix).toNat_lt
        by_cases hlo : ((s[pos + (j + 1)]'hix).toNat : Int) < 128
        .go_wp2
         go_ret2
         exact CharsPost.bad (a1K s b pos acc hlt hb (a3F s pos 3 (j + 1) hlt (a1L HC.out) (by omega) (by omega) hix (.inl hlo)) HM.out) (hbel.alloc hbel.size _)
        .by_cases hhi : 191 < ((s[pos + (j + 1)]'hix).toNat : Int)
         .go_wp2
          go_ret2
          exact CharsPost.bad (a1K s b pos acc hlt hb (a3F s pos 3 (j + 1) hlt (a1L HC.out) (by omega) (by omega) hix (.inr hhi)) HM.out) (hbel.alloc hbel.size _)
         .go_wp2
          go_round
          case rel => exact ⟨j + 1, by omega, by go_num, a3P CT.out hix (by omega) (by omega), by rw [ES.out]⟩
          case measure => simp [intOf]; omega
       .have ej : j = 3 := by omega
        have CTN : Hid (a2J s pos 3) := by have := CT.out; rw [ej] at this; exact this
        have ED := a8l s pos 3 65536 240 hlt HC.out hsz CTN.out _ rfl
        have EDH : Hid (Utf8.decode s pos = if ext s pos (((s[pos]'hlt).toNat : Int) - 240) 3 < 65536 \/ 1114111 < ext s pos (((s[pos]'hlt).toNat : Int) - 240) 3 \/ (55296 <= ext s pos (((s[pos]'hlt).toNat : Int) - 240) 3 /\ ext s pos (((s[pos]'hlt).toNat : Int) - 240) 3 <= 57343) then (65533, 1) else ((ext s pos (((s[pos]'hlt).toNat : Int) - 240) 3).toNat, 3 + 1)) := ED
        clear ED CT
        subst ej
        generalize ext s pos (((s[pos]'hlt).toNat : Int) - 240) 3 = c at *
        by_cases hbad : c < 65536 \/ 1114111 < c \/ (55296 <= c /\ c <= 57343)
        .have EB : Hid (a2g s = none) := a1K s b pos acc hlt hb (by rw [EDH.out, if_pos hbad]) HM.out
         clear EDH
         by_cases h1 : c < 65536
         .clear hbad
          go_wp2
          go_ret2
          exact CharsPost.bad EB.out (hbel.alloc hbel.size _)
         by_cases h2 : 1114111 < c
         .clear hbad
          go_wp2
          go_ret2
          exact CharsPost.bad EB.out (hbel.alloc hbel.size _)
         .have h3 : 55296 <= c := by omega
          have h4 : c <= 57343 := by omega
          clear hbad
          go_wp2
          go_ret2
          exact CharsPost.bad EB.out (hbel.alloc hbel.size _)
        .have EB : Hid (Utf8.decode s pos = (c.toNat, 3 + 1)) := (by rw [EDH.out, if_neg hbad] : Utf8.decode s pos = (c.toNat, 3 + 1))
         clear EDH
         have h1 : ¬ c < 65536 := by omega
         have h2 : ¬ 1114111 < c := by omega
         by_cases h3 : 55296 <= c
         .have h4 : ¬ c <= 57343 := by omega
          clear hbad
          go_wp2_with (at_builtin; refine wpList_append_own _ rfl (.tmp 103) (.tmp 105) 37 rfl w.heap.size 3 i0 (.int .i64 0) 1 8 Tryz.underlying37 hi hz0 hz1 hz2 rfl (by decide) _ _ _ rfl (hown.alloc _) ⟨wr.heap.size, 0, none⟩ 1 1 [.int .i64 c] rfl rfl (cell_one_new _ _ _) (by intro u hu; simp at hu; subst hu; rfl) (by unfold maxLen; omega) (by omega) (by have := hbel.size; simp; omega) ?_; intro v' w1 hown' hgrow _)
          .skip
           have R := rel_step s w wr w1 _ v' pos b (3 + 1) acc _ _ hlt hp hb hacc EB.out (by omega) (by omega) (by omega) (by omega) HM.out hown hbel hown' hgrow
           clear hown' hgrow hown hbel
           go_wp2
           go_roundw
           case rel => exact R
           case measure => simp [intOf]; omega
         .exfalso; omega
     .have hsz' : ¬ ((pos : Int) + 3 < s.size) := by omega
      go_wp2
      go_ret2
      exact CharsPost.bad (a1K s b pos acc hlt hb (a5k s pos 3 hlt (a1L HC.out) (by omega)) HM.out) (hbel.alloc hbel.size _)
    .go_wp2
     go_ret2
     exact CharsPost.bad (a1K s b pos acc hlt hb (b8s s pos hlt (by omega)) HM.out) (hbel.alloc hbel.size _)
  .go_wp2
   go_ret2
   exact CharsPost.good (b6N s b pos acc hlt HM.out) hown hbel
end Go.Proofs.YtphmpkpcamgjeaaGreatDoor.Lx
