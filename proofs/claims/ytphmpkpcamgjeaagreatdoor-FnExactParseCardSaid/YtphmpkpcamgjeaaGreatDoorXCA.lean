import Derived.Test.YtphmpkpcamgjeaaGreatDoorXAA
import Derived.Test.YtphmpkpcamgjeaaGreatDoorXAK
import Derived.Deep.LoopGhost
import Derived.WalkMore
import Derived.ScopeJumps
import Derived.Test.YtphmpkpcamgjeaaGreatDoorXBZ
set_option linter.unusedVariables false
set_option linter.unusedSimpArgs false
set_option maxRecDepth 100000
set_option maxHeartbeats 16000000
namespace Go.Proofs.YtphmpkpcamgjeaaGreatDoor.Lx
open Go.ChangeShapes Go.WideShapes Go.ChangeAt Go.RowKit Go.Proofs.Tryz Go.Shelf
theorem cells3 (W : World) (B : Nat) (hB : B = W.heap.size) (a b c : Value) (ty : TypeId) : ∀ j u, ([a, b, c] : List Value)[j]? = some u -> (W.alloc (.cells #[a, b, c] ty)).cell? ((⟨B, 0, none⟩ : Addr).add j) = some u := by
 subst hB
 intro j u h
 match j, h with
 | 0, h => simp at h; subst h; simp [Addr.add]
 | 1, h => simp at h; subst h; simp [Addr.add]
 | 2, h => simp at h; subst h; simp [Addr.add]
 | j + 3, h => simp at h
theorem b8o (l:List UInt8) (p:Nat):([45,45]:List UInt8).isPrefixOf (l.drop p)=a2H l p:=by
 unfold a2H
 cases h:l[p]? with
 | none=>rw[drop_nil l p h];simp
 | some c=>
 rw[drop_cons l p c h]
 cases h2:l[p+1]? with
 | none=>rw[drop_nil l (p+1) h2];simp[List.isPrefixOf]
 | some d=>
 rw[drop_cons l (p+1) d h2];simp[List.isPrefixOf];rw[Bool.eq_iff_iff];simp;constructor<;>(rintro⟨a,b⟩;exact⟨a.symm,b.symm⟩)
theorem lex_any (s:ByteArray) (w:World) (hs:s.size<=8000) (hT:Tabs w):Calls prog 30 #[.string s] w fun e w'=>LexPost s w e w':=by
 have hsl:s.data.toList.length=s.size:=by simp
 obtain⟨i0,hi,b1,a8,b2⟩:=info_parts b6C;go_enter func30,ntmps30;go_wp2;go_step3;go_wp2;go_step3;go_wp2;go_loopg [5,6] s.size (fun g v i wr=>∃ (p:Nat) (acc:List Tok),p+g=s.size/\i=.int .i64 p/\acc.length<=2000/\Hid (∀ r,LexR s.data.toList p acc r->LexR s.data.toList 0 [] r)/\wr.ownsRow w.heap.size 50 3 v acc.length (tcells acc)/\Below w.heap.size w wr)
 case atStart=>exact⟨0,[],by omega,rfl,by simp,fun r h=>h,World.ownsRow_nil _ _ _ _,Below.refl _ _⟩
 case round=>
 obtain⟨p,acc,hpg,rfl,hal,HC,hown,hbel⟩:=hrel;have hbs:=hbel.size;obtain⟨la,lc,b8⟩:=a4H hown;subst b8;by_cases hlt:p<s.size
 .have hlti:(p:Int)<s.size:=by omega
  have HG:Hid (s.data.toList[p]?=some (s[p]'hlt)):=a0P s p hlt;have hTa:∀ o,Tabs (wr.alloc o):=fun o=>tabs_below hT (hbel.alloc hbs o)
  have hne:(Value.slice la acc.length lc).ownBlock≠some wr.heap.size:=fun z=>by have:=(hown.lt _ z).2;omega
  obtain⟨c0,a7⟩:∃ c0:UInt8,s[p]'hlt=c0:=⟨_,rfl⟩
  have hci:((s[p]'hlt).toNat:Int)=(c0.toNat:Int):=by rw[a7]
  cases hbl:blank c0
  .have HBL:Hid (blank (s[p]'hlt)=false):=by rw[a7];exact hbl
   unfold blank at hbl;simp only[Bool.or_eq_false_iff,decide_eq_false_iff_not] at hbl;obtain⟨⟨⟨b6,n9⟩,b4⟩,b7⟩:=hbl
   have b6:((c0.toNat:Int)==32)=false:=by rw[beq_eq_false_iff_ne];exact fun z=>b6 (UInt8.toNat.inj (show c0.toNat=32 by omega))
   have n9:((c0.toNat:Int)==9)=false:=by rw[beq_eq_false_iff_ne];exact fun z=>n9 (UInt8.toNat.inj (show c0.toNat=9 by omega))
   have b4:((c0.toNat:Int)==10)=false:=by rw[beq_eq_false_iff_ne];exact fun z=>b4 (UInt8.toNat.inj (show c0.toNat=10 by omega))
   have b7:((c0.toNat:Int)==13)=false:=by rw[beq_eq_false_iff_ne];exact fun z=>b7 (UInt8.toNat.inj (show c0.toNat=13 by omega))
   have hpre:=fun w=>Tryz.strings_HasPrefix (s.extract p s.size) ⟨#[45,45]⟩ w;unfold Lib.hasPrefix at hpre;rw[a2F,show(⟨#[45,45]⟩:ByteArray).data.toList.isPrefixOf (s.data.toList.drop p)=a2H s.data.toList p from b8o _ _] at hpre;cases hcm:a2H s.data.toList p
   .rw[hcm] at hpre;have HCM:Hid (a2H s.data.toList p=false):=hcm;clear hcm;by_cases hm:acc.length=2000
    .have hmi:((acc.length:Int)==2000)=true:=by rw[beq_iff_eq];omega
     have HM:Hid (acc.length=2000):=hm;clear hm;go_wp2_with (go_at_call 59;refine ws (hpre _) ?_)
     try rw[Exit.noGoto_ret]
     go_ret3;exact LexPost.err (HC.out _ (LexR.many HG.out HBL.out HCM.out HM.out)) rfl (hbel.alloc hbs _)
    have hbw:=fun w=>a0q (c0.toNat:Int) w;have hdg:=fun w=>a1G (c0.toNat:Int) w
    have hmi:((acc.length:Int)==2000)=false:=by rw[beq_eq_false_iff_ne];omega
    cases hw:wdI (c0.toNat:Int)
    .rw[hw] at hbw;cases hd:digI (c0.toNat:Int)
     .rw[hd] at hdg;by_cases a9:c0=34
      .have hcut:=b7L s p hs hlt (by rw[a7];exact a9)
       have b3:(c0.toNat:Int)=34:=by rw[a9];rfl
       rw[b3] at hbw hdg;clear hw hd a9
       cases hcl:cutL (s.data.toList.drop p) with
       | err c f=>
        rw[hcl] at hcut;simp only[cutV] at hcut;have HK:Hid (cutL (s.data.toList.drop p)=.err c f):=hcl;have hce:=cut_err hcl;rw[List.length_drop,hsl] at hce
        have hcne:(c != 0)=true:=by rw[bne_iff_ne];omega
        clear hcl;go_wp2_with (first | (go_at_call 59;refine ws (hpre _) ?_) | (go_at_call 60;refine ws (hbw _) ?_) | (go_at_call 62;refine ws (hdg _) ?_) | (go_at_call 64;refine(hcut _ (hTa _)).mono ?_;rintro e w1 ⟨rfl,a0⟩;obtain⟨a2,a3⟩:=bcell a0;have a4:wr.heap.size<w1.heap.size:=(by have:=a0.size;simp at this;omega);have a1:Below w.heap.size w w1:=(hbel.alloc hbel.size _).trans (a0.mono (by simp;omega));have a5:=own_below (hown.alloc _) a0;clear a0));go_quiet (fail);go_wp2
        try rw[Exit.noGoto_ret]
        go_ret3;exact LexPost.err (HC.out _ (LexR.bad HG.out HBL.out HCM.out hm HK.out)) (by omega) (below_drewN (by(go_light;repeat (first | with_reducible exact a1 | (with_reducible refine Below.setCell ?_ ?_ _;rotate_left;(focus first | omega | (simp;omega) | (simp;done))) | (with_reducible refine Below.alloc ?_ ?_ _;rotate_left;(focus first | (simp;omega) | (simp;done) | omega)) | with_reducible refine Below.drew ?_))) _)
       | tok k x n=>
       rw[hcl] at hcut;simp only[cutV] at hcut;have HK:Hid (cutL (s.data.toList.drop p)=.tok k x n):=hcl;have hn:=cut_size hcl;rw[List.length_drop,hsl] at hn;clear hcl
       go_wp2_with (first | (go_at_call 59;refine ws (hpre _) ?_) | (go_at_call 60;refine ws (hbw _) ?_) | (go_at_call 62;refine ws (hdg _) ?_) | (go_at_call 64;refine(hcut _ (hTa _)).mono ?_;rintro e w1 ⟨rfl,a0⟩;obtain⟨a2,a3⟩:=bcell a0;have a4:wr.heap.size<w1.heap.size:=(by have:=a0.size;simp at this;omega);have a1:Below w.heap.size w w1:=(hbel.alloc hbel.size _).trans (a0.mono (by simp;omega));have a5:=own_below (hown.alloc _) a0;clear a0) | (at_builtin;go_loud (refine wpList_append_own _ rfl (.tmp 90) (.tmp 97) 30 rfl w.heap.size 50 i0 (.agg #[.int .i64 0,.string ⟨#[]⟩,.int .i64 0]) 3 32 underlying30 hi b1 a8 b2 rfl (by decide) (.slice la acc.length lc) acc.length (tcells acc) rfl (by(go_light;repeat (first | with_reducible exact a5 | with_reducible refine ownsRow_setCell_other ?_ hne _ | with_reducible refine World.ownsRow.alloc ?_ _ | with_reducible refine World.ownsRow.drew ?_))) ⟨_,0,none⟩ 1 1 [.int .i64 k,.string ⟨x.toArray⟩,.int .i64 (p:Int)] rfl rfl (cells3 _ _ (by simp) _ _ _ _) (by intro u hu;simp at hu;rcases hu with rfl | rfl | rfl<;>rfl) (by unfold maxLen;omega) (by omega) (by simp;omega) ?_);intro v' w2 hown' hgrow _;have hld:w2.cell? ⟨wr.heap.size,2,none⟩=some (.int .i64 n):=(World.cell?_of_block (a:=⟨wr.heap.size,2,none⟩) (hgrow.block wr.heap.size (by simp;omega) (fun z=>hne z.symm))).trans (by simp[go_sem,a2,a3,a4])))
       have a6:Hid (Below w.heap.size w w2):=Below.grown (by(go_light;repeat (first | with_reducible exact a1 | (with_reducible refine Below.setCell ?_ ?_ _;rotate_left;(focus first | omega | (simp;omega) | (simp;done))) | (with_reducible refine Below.alloc ?_ ?_ _;rotate_left;(focus first | (simp;omega) | (simp;done) | omega)) | with_reducible refine Below.drew ?_))) hgrow (by simp;omega) (fun k hk=>(hown.lt k hk).1)
       have HO:Hid (w2.ownsRow w.heap.size 50 3 v' (acc++[(k,x,p)]).length (tcells (acc++[(k,x,p)]))):=by
        show w2.ownsRow w.heap.size 50 3 v' (acc++[(k,x,p)]).length (tcells (acc++[(k,x,p)]))
        rw[a2e];simpa using hown'
       clear hown' hgrow;go_roundg (s.size-(p+n))
       case rel=>exact⟨p+n,acc++[(k,x,p)],by omega,by go_num,by simp;omega,fun r h=>HC.out r (LexR.tok HG.out HBL.out HCM.out hm HK.out h),HO.out,a6.out⟩
       case measure=>omega
      have b3:((c0.toNat:Int)==34)=false:=by rw[beq_eq_false_iff_ne];exact fun z=>a9 (UInt8.toNat.inj (show c0.toNat=34 by omega))
      by_cases b0:c0=39
      .have hcut:=b7M s p hs hlt (by rw[a7];exact b0)
       have b5:(c0.toNat:Int)=39:=by rw[b0];rfl
       rw[b5] at hbw hdg;clear hw hd b0 b3
       cases hcl:cutL (s.data.toList.drop p) with
       | err c f=>
        rw[hcl] at hcut;simp only[cutV] at hcut;have HK:Hid (cutL (s.data.toList.drop p)=.err c f):=hcl;have hce:=cut_err hcl;rw[List.length_drop,hsl] at hce
        have hcne:(c != 0)=true:=by rw[bne_iff_ne];omega
        clear hcl;go_wp2_with (first | (go_at_call 59;refine ws (hpre _) ?_) | (go_at_call 60;refine ws (hbw _) ?_) | (go_at_call 62;refine ws (hdg _) ?_) | (go_at_call 65;refine(hcut _ (hTa _)).mono ?_;rintro e w1 ⟨rfl,a0⟩;obtain⟨a2,a3⟩:=bcell a0;have a4:wr.heap.size<w1.heap.size:=(by have:=a0.size;simp at this;omega);have a1:Below w.heap.size w w1:=(hbel.alloc hbel.size _).trans (a0.mono (by simp;omega));have a5:=own_below (hown.alloc _) a0;clear a0));go_quiet (fail);go_wp2
        try rw[Exit.noGoto_ret]
        go_ret3;exact LexPost.err (HC.out _ (LexR.bad HG.out HBL.out HCM.out hm HK.out)) (by omega) (below_drewN (by(go_light;repeat (first | with_reducible exact a1 | (with_reducible refine Below.setCell ?_ ?_ _;rotate_left;(focus first | omega | (simp;omega) | (simp;done))) | (with_reducible refine Below.alloc ?_ ?_ _;rotate_left;(focus first | (simp;omega) | (simp;done) | omega)) | with_reducible refine Below.drew ?_))) _)
       | tok k x n=>
       rw[hcl] at hcut;simp only[cutV] at hcut;have HK:Hid (cutL (s.data.toList.drop p)=.tok k x n):=hcl;have hn:=cut_size hcl;rw[List.length_drop,hsl] at hn;clear hcl
       go_wp2_with (first | (go_at_call 59;refine ws (hpre _) ?_) | (go_at_call 60;refine ws (hbw _) ?_) | (go_at_call 62;refine ws (hdg _) ?_) | (go_at_call 65;refine(hcut _ (hTa _)).mono ?_;rintro e w1 ⟨rfl,a0⟩;obtain⟨a2,a3⟩:=bcell a0;have a4:wr.heap.size<w1.heap.size:=(by have:=a0.size;simp at this;omega);have a1:Below w.heap.size w w1:=(hbel.alloc hbel.size _).trans (a0.mono (by simp;omega));have a5:=own_below (hown.alloc _) a0;clear a0) | (at_builtin;go_loud (refine wpList_append_own _ rfl (.tmp 90) (.tmp 97) 30 rfl w.heap.size 50 i0 (.agg #[.int .i64 0,.string ⟨#[]⟩,.int .i64 0]) 3 32 underlying30 hi b1 a8 b2 rfl (by decide) (.slice la acc.length lc) acc.length (tcells acc) rfl (by(go_light;repeat (first | with_reducible exact a5 | with_reducible refine ownsRow_setCell_other ?_ hne _ | with_reducible refine World.ownsRow.alloc ?_ _ | with_reducible refine World.ownsRow.drew ?_))) ⟨_,0,none⟩ 1 1 [.int .i64 k,.string ⟨x.toArray⟩,.int .i64 (p:Int)] rfl rfl (cells3 _ _ (by simp) _ _ _ _) (by intro u hu;simp at hu;rcases hu with rfl | rfl | rfl<;>rfl) (by unfold maxLen;omega) (by omega) (by simp;omega) ?_);intro v' w2 hown' hgrow _;have hld:w2.cell? ⟨wr.heap.size,2,none⟩=some (.int .i64 n):=(World.cell?_of_block (a:=⟨wr.heap.size,2,none⟩) (hgrow.block wr.heap.size (by simp;omega) (fun z=>hne z.symm))).trans (by simp[go_sem,a2,a3,a4])))
       have a6:Hid (Below w.heap.size w w2):=Below.grown (by(go_light;repeat (first | with_reducible exact a1 | (with_reducible refine Below.setCell ?_ ?_ _;rotate_left;(focus first | omega | (simp;omega) | (simp;done))) | (with_reducible refine Below.alloc ?_ ?_ _;rotate_left;(focus first | (simp;omega) | (simp;done) | omega)) | with_reducible refine Below.drew ?_))) hgrow (by simp;omega) (fun k hk=>(hown.lt k hk).1)
       have HO:Hid (w2.ownsRow w.heap.size 50 3 v' (acc++[(k,x,p)]).length (tcells (acc++[(k,x,p)]))):=by
        show w2.ownsRow w.heap.size 50 3 v' (acc++[(k,x,p)]).length (tcells (acc++[(k,x,p)]))
        rw[a2e];simpa using hown'
       clear hown' hgrow;go_roundg (s.size-(p+n))
       case rel=>exact⟨p+n,acc++[(k,x,p)],by omega,by go_num,by simp;omega,fun r h=>HC.out r (LexR.tok HG.out HBL.out HCM.out hm HK.out h),HO.out,a6.out⟩
       case measure=>omega
      have b5:((c0.toNat:Int)==39)=false:=by rw[beq_eq_false_iff_ne];exact fun z=>b0 (UInt8.toNat.inj (show c0.toNat=39 by omega))
      have hcut:=b7N s p hs hlt (by rw[hci];exact hw) (by rw[hci];exact hd) (by rw[a7];exact a9) (by rw[a7];exact b0);clear hw hd a9 b0
      cases hcl:cutL (s.data.toList.drop p) with
      | err c f=>
       rw[hcl] at hcut;simp only[cutV] at hcut;have HK:Hid (cutL (s.data.toList.drop p)=.err c f):=hcl;have hce:=cut_err hcl;rw[List.length_drop,hsl] at hce
       have hcne:(c != 0)=true:=by rw[bne_iff_ne];omega
       clear hcl;go_wp2_with (first | (go_at_call 59;refine ws (hpre _) ?_) | (go_at_call 60;refine ws (hbw _) ?_) | (go_at_call 62;refine ws (hdg _) ?_) | (go_at_call 66;refine(hcut _ (hTa _)).mono ?_;rintro e w1 ⟨rfl,a0⟩;obtain⟨a2,a3⟩:=bcell a0;have a4:wr.heap.size<w1.heap.size:=(by have:=a0.size;simp at this;omega);have a1:Below w.heap.size w w1:=(hbel.alloc hbel.size _).trans (a0.mono (by simp;omega));have a5:=own_below (hown.alloc _) a0;clear a0));go_quiet (fail);go_wp2
       try rw[Exit.noGoto_ret]
       go_ret3;exact LexPost.err (HC.out _ (LexR.bad HG.out HBL.out HCM.out hm HK.out)) (by omega) (below_drewN (by(go_light;repeat (first | with_reducible exact a1 | (with_reducible refine Below.setCell ?_ ?_ _;rotate_left;(focus first | omega | (simp;omega) | (simp;done))) | (with_reducible refine Below.alloc ?_ ?_ _;rotate_left;(focus first | (simp;omega) | (simp;done) | omega)) | with_reducible refine Below.drew ?_))) _)
      | tok k x n=>
      rw[hcl] at hcut;simp only[cutV] at hcut;have HK:Hid (cutL (s.data.toList.drop p)=.tok k x n):=hcl;have hn:=cut_size hcl;rw[List.length_drop,hsl] at hn;clear hcl
      go_wp2_with (first | (go_at_call 59;refine ws (hpre _) ?_) | (go_at_call 60;refine ws (hbw _) ?_) | (go_at_call 62;refine ws (hdg _) ?_) | (go_at_call 66;refine(hcut _ (hTa _)).mono ?_;rintro e w1 ⟨rfl,a0⟩;obtain⟨a2,a3⟩:=bcell a0;have a4:wr.heap.size<w1.heap.size:=(by have:=a0.size;simp at this;omega);have a1:Below w.heap.size w w1:=(hbel.alloc hbel.size _).trans (a0.mono (by simp;omega));have a5:=own_below (hown.alloc _) a0;clear a0) | (at_builtin;go_loud (refine wpList_append_own _ rfl (.tmp 90) (.tmp 97) 30 rfl w.heap.size 50 i0 (.agg #[.int .i64 0,.string ⟨#[]⟩,.int .i64 0]) 3 32 underlying30 hi b1 a8 b2 rfl (by decide) (.slice la acc.length lc) acc.length (tcells acc) rfl (by(go_light;repeat (first | with_reducible exact a5 | with_reducible refine ownsRow_setCell_other ?_ hne _ | with_reducible refine World.ownsRow.alloc ?_ _ | with_reducible refine World.ownsRow.drew ?_))) ⟨_,0,none⟩ 1 1 [.int .i64 k,.string ⟨x.toArray⟩,.int .i64 (p:Int)] rfl rfl (cells3 _ _ (by simp) _ _ _ _) (by intro u hu;simp at hu;rcases hu with rfl | rfl | rfl<;>rfl) (by unfold maxLen;omega) (by omega) (by simp;omega) ?_);intro v' w2 hown' hgrow _;have hld:w2.cell? ⟨wr.heap.size,2,none⟩=some (.int .i64 n):=(World.cell?_of_block (a:=⟨wr.heap.size,2,none⟩) (hgrow.block wr.heap.size (by simp;omega) (fun z=>hne z.symm))).trans (by simp[go_sem,a2,a3,a4])))
      have a6:Hid (Below w.heap.size w w2):=Below.grown (by(go_light;repeat (first | with_reducible exact a1 | (with_reducible refine Below.setCell ?_ ?_ _;rotate_left;(focus first | omega | (simp;omega) | (simp;done))) | (with_reducible refine Below.alloc ?_ ?_ _;rotate_left;(focus first | (simp;omega) | (simp;done) | omega)) | with_reducible refine Below.drew ?_))) hgrow (by simp;omega) (fun k hk=>(hown.lt k hk).1)
      have HO:Hid (w2.ownsRow w.heap.size 50 3 v' (acc++[(k,x,p)]).length (tcells (acc++[(k,x,p)]))):=by
       show w2.ownsRow w.heap.size 50 3 v' (acc++[(k,x,p)]).length (tcells (acc++[(k,x,p)]))
       rw[a2e];simpa using hown'
      clear hown' hgrow;go_roundg (s.size-(p+n))
      case rel=>exact⟨p+n,acc++[(k,x,p)],by omega,by go_num,by simp;omega,fun r h=>HC.out r (LexR.tok HG.out HBL.out HCM.out hm HK.out h),HO.out,a6.out⟩
      case measure=>omega
     rw[hd] at hdg;have hcut:=b7K s p hs hlt (by rw[hci];exact hw) (by rw[hci];exact hd);clear hw hd
     cases hcl:cutL (s.data.toList.drop p) with
     | err c f=>
      rw[hcl] at hcut;simp only[cutV] at hcut;have HK:Hid (cutL (s.data.toList.drop p)=.err c f):=hcl;have hce:=cut_err hcl;rw[List.length_drop,hsl] at hce
      have hcne:(c != 0)=true:=by rw[bne_iff_ne];omega
      clear hcl;go_wp2_with (first | (go_at_call 59;refine ws (hpre _) ?_) | (go_at_call 60;refine ws (hbw _) ?_) | (go_at_call 62;refine ws (hdg _) ?_) | (go_at_call 63;refine(hcut _ (hTa _)).mono ?_;rintro e w1 ⟨rfl,a0⟩;obtain⟨a2,a3⟩:=bcell a0;have a4:wr.heap.size<w1.heap.size:=(by have:=a0.size;simp at this;omega);have a1:Below w.heap.size w w1:=(hbel.alloc hbel.size _).trans (a0.mono (by simp;omega));have a5:=own_below (hown.alloc _) a0;clear a0));go_quiet (fail);go_wp2
      try rw[Exit.noGoto_ret]
      go_ret3;exact LexPost.err (HC.out _ (LexR.bad HG.out HBL.out HCM.out hm HK.out)) (by omega) (below_drewN (by(go_light;repeat (first | with_reducible exact a1 | (with_reducible refine Below.setCell ?_ ?_ _;rotate_left;(focus first | omega | (simp;omega) | (simp;done))) | (with_reducible refine Below.alloc ?_ ?_ _;rotate_left;(focus first | (simp;omega) | (simp;done) | omega)) | with_reducible refine Below.drew ?_))) _)
     | tok k x n=>
     rw[hcl] at hcut;simp only[cutV] at hcut;have HK:Hid (cutL (s.data.toList.drop p)=.tok k x n):=hcl;have hn:=cut_size hcl;rw[List.length_drop,hsl] at hn;clear hcl
     go_wp2_with (first | (go_at_call 59;refine ws (hpre _) ?_) | (go_at_call 60;refine ws (hbw _) ?_) | (go_at_call 62;refine ws (hdg _) ?_) | (go_at_call 63;refine(hcut _ (hTa _)).mono ?_;rintro e w1 ⟨rfl,a0⟩;obtain⟨a2,a3⟩:=bcell a0;have a4:wr.heap.size<w1.heap.size:=(by have:=a0.size;simp at this;omega);have a1:Below w.heap.size w w1:=(hbel.alloc hbel.size _).trans (a0.mono (by simp;omega));have a5:=own_below (hown.alloc _) a0;clear a0) | (at_builtin;go_loud (refine wpList_append_own _ rfl (.tmp 90) (.tmp 97) 30 rfl w.heap.size 50 i0 (.agg #[.int .i64 0,.string ⟨#[]⟩,.int .i64 0]) 3 32 underlying30 hi b1 a8 b2 rfl (by decide) (.slice la acc.length lc) acc.length (tcells acc) rfl (by(go_light;repeat (first | with_reducible exact a5 | with_reducible refine ownsRow_setCell_other ?_ hne _ | with_reducible refine World.ownsRow.alloc ?_ _ | with_reducible refine World.ownsRow.drew ?_))) ⟨_,0,none⟩ 1 1 [.int .i64 k,.string ⟨x.toArray⟩,.int .i64 (p:Int)] rfl rfl (cells3 _ _ (by simp) _ _ _ _) (by intro u hu;simp at hu;rcases hu with rfl | rfl | rfl<;>rfl) (by unfold maxLen;omega) (by omega) (by simp;omega) ?_);intro v' w2 hown' hgrow _;have hld:w2.cell? ⟨wr.heap.size,2,none⟩=some (.int .i64 n):=(World.cell?_of_block (a:=⟨wr.heap.size,2,none⟩) (hgrow.block wr.heap.size (by simp;omega) (fun z=>hne z.symm))).trans (by simp[go_sem,a2,a3,a4])))
     have a6:Hid (Below w.heap.size w w2):=Below.grown (by(go_light;repeat (first | with_reducible exact a1 | (with_reducible refine Below.setCell ?_ ?_ _;rotate_left;(focus first | omega | (simp;omega) | (simp;done))) | (with_reducible refine Below.alloc ?_ ?_ _;rotate_left;(focus first | (simp;omega) | (simp;done) | omega)) | with_reducible refine Below.drew ?_))) hgrow (by simp;omega) (fun k hk=>(hown.lt k hk).1)
     have HO:Hid (w2.ownsRow w.heap.size 50 3 v' (acc++[(k,x,p)]).length (tcells (acc++[(k,x,p)]))):=by
      show w2.ownsRow w.heap.size 50 3 v' (acc++[(k,x,p)]).length (tcells (acc++[(k,x,p)]))
      rw[a2e];simpa using hown'
     clear hown' hgrow;go_roundg (s.size-(p+n))
     case rel=>exact⟨p+n,acc++[(k,x,p)],by omega,by go_num,by simp;omega,fun r h=>HC.out r (LexR.tok HG.out HBL.out HCM.out hm HK.out h),HO.out,a6.out⟩
     case measure=>omega
    rw[hw] at hbw;have hcut:=b5M s p hs hlt (by rw[hci];exact hw);clear hw
    cases hcl:cutL (s.data.toList.drop p) with
    | err c f=>
     rw[hcl] at hcut;simp only[cutV] at hcut;have HK:Hid (cutL (s.data.toList.drop p)=.err c f):=hcl;have hce:=cut_err hcl;rw[List.length_drop,hsl] at hce
     have hcne:(c != 0)=true:=by rw[bne_iff_ne];omega
     clear hcl;go_wp2_with (first | (go_at_call 59;refine ws (hpre _) ?_) | (go_at_call 60;refine ws (hbw _) ?_) | (go_at_call 62;refine ws (hdg _) ?_) | (go_at_call 61;refine(hcut _ (hTa _)).mono ?_;rintro e w1 ⟨rfl,a0⟩;obtain⟨a2,a3⟩:=bcell a0;have a4:wr.heap.size<w1.heap.size:=(by have:=a0.size;simp at this;omega);have a1:Below w.heap.size w w1:=(hbel.alloc hbel.size _).trans (a0.mono (by simp;omega));have a5:=own_below (hown.alloc _) a0;clear a0));go_quiet (fail);go_wp2
     try rw[Exit.noGoto_ret]
     go_ret3;exact LexPost.err (HC.out _ (LexR.bad HG.out HBL.out HCM.out hm HK.out)) (by omega) (below_drewN (by(go_light;repeat (first | with_reducible exact a1 | (with_reducible refine Below.setCell ?_ ?_ _;rotate_left;(focus first | omega | (simp;omega) | (simp;done))) | (with_reducible refine Below.alloc ?_ ?_ _;rotate_left;(focus first | (simp;omega) | (simp;done) | omega)) | with_reducible refine Below.drew ?_))) _)
    | tok k x n=>
    rw[hcl] at hcut;simp only[cutV] at hcut;have HK:Hid (cutL (s.data.toList.drop p)=.tok k x n):=hcl;have hn:=cut_size hcl;rw[List.length_drop,hsl] at hn;clear hcl
    go_wp2_with (first | (go_at_call 59;refine ws (hpre _) ?_) | (go_at_call 60;refine ws (hbw _) ?_) | (go_at_call 62;refine ws (hdg _) ?_) | (go_at_call 61;refine(hcut _ (hTa _)).mono ?_;rintro e w1 ⟨rfl,a0⟩;obtain⟨a2,a3⟩:=bcell a0;have a4:wr.heap.size<w1.heap.size:=(by have:=a0.size;simp at this;omega);have a1:Below w.heap.size w w1:=(hbel.alloc hbel.size _).trans (a0.mono (by simp;omega));have a5:=own_below (hown.alloc _) a0;clear a0) | (at_builtin;go_loud (refine wpList_append_own _ rfl (.tmp 90) (.tmp 97) 30 rfl w.heap.size 50 i0 (.agg #[.int .i64 0,.string ⟨#[]⟩,.int .i64 0]) 3 32 underlying30 hi b1 a8 b2 rfl (by decide) (.slice la acc.length lc) acc.length (tcells acc) rfl (by(go_light;repeat (first | with_reducible exact a5 | with_reducible refine ownsRow_setCell_other ?_ hne _ | with_reducible refine World.ownsRow.alloc ?_ _ | with_reducible refine World.ownsRow.drew ?_))) ⟨_,0,none⟩ 1 1 [.int .i64 k,.string ⟨x.toArray⟩,.int .i64 (p:Int)] rfl rfl (cells3 _ _ (by simp) _ _ _ _) (by intro u hu;simp at hu;rcases hu with rfl | rfl | rfl<;>rfl) (by unfold maxLen;omega) (by omega) (by simp;omega) ?_);intro v' w2 hown' hgrow _;have hld:w2.cell? ⟨wr.heap.size,2,none⟩=some (.int .i64 n):=(World.cell?_of_block (a:=⟨wr.heap.size,2,none⟩) (hgrow.block wr.heap.size (by simp;omega) (fun z=>hne z.symm))).trans (by simp[go_sem,a2,a3,a4])))
    have a6:Hid (Below w.heap.size w w2):=Below.grown (by(go_light;repeat (first | with_reducible exact a1 | (with_reducible refine Below.setCell ?_ ?_ _;rotate_left;(focus first | omega | (simp;omega) | (simp;done))) | (with_reducible refine Below.alloc ?_ ?_ _;rotate_left;(focus first | (simp;omega) | (simp;done) | omega)) | with_reducible refine Below.drew ?_))) hgrow (by simp;omega) (fun k hk=>(hown.lt k hk).1)
    have HO:Hid (w2.ownsRow w.heap.size 50 3 v' (acc++[(k,x,p)]).length (tcells (acc++[(k,x,p)]))):=by
     show w2.ownsRow w.heap.size 50 3 v' (acc++[(k,x,p)]).length (tcells (acc++[(k,x,p)]))
     rw[a2e];simpa using hown'
    clear hown' hgrow;go_roundg (s.size-(p+n))
    case rel=>exact⟨p+n,acc++[(k,x,p)],by omega,by go_num,by simp;omega,fun r h=>HC.out r (LexR.tok HG.out HBL.out HCM.out hm HK.out h),HO.out,a6.out⟩
    case measure=>omega
   rw[hcm] at hpre;have HCM:Hid (a2H s.data.toList p=true):=hcm;clear hcm;go_wp2_with (go_at_call 59;refine ws (hpre _) ?_);go_loopg [6] (s.size-p) (fun g2 i wy=>∃ q:Nat,p<=q/\q+g2=s.size/\i=.int .i64 q/\Hid (q-p<=runN nlI (s.data.toList.drop p))/\wr.alloc (.cells #[.int .i64 0,.string ⟨#[]⟩,.int .i64 0,.int .i64 0,.int .i64 0] 88)=wy)
   case atStart=>exact⟨p,Nat.le_refl _,by omega,rfl,by show p-p<=_;omega,rfl⟩
   case round=>
   obtain⟨q,b9,c2,rfl,HQ,rfl⟩:=hrel;by_cases hql:q<s.size
   .have hqi:(q:Int)<s.size:=by omega
    have hst:=a2y nlI _ (q-p) _ HQ.out (get_at s p q b9 hql);by_cases h10:((s[q]'hql).toNat:Int)=10
    .have HE:Hid (p+runN nlI (s.data.toList.drop p)=q):=by
      have:=hst.2 (by unfold nlI;simp[h10])
      show _=_
      omega
     have hpq:p<q:=by
      rcases Nat.lt_or_ge p q with z | z
      .exact z
      have e:p=q:=by omega
      subst e;rw[beq_eq_false_iff_ne] at b4;exact absurd (hci.symm.trans h10) b4
     clear hst;go_wp2;go_roundg (s.size-q)
     case rel=>exact⟨q,acc,by omega,rfl,hal,fun r h=>HC.out r (LexR.cmt HCM.out (by rw[HE.out];exact h)),hown.alloc _,hbel.alloc hbs _⟩
     case measure=>omega
    have HE:Hid (q+1-p<=runN nlI (s.data.toList.drop p)):=by
     have:=hst.1 (by unfold nlI;simp[h10])
     show _<=_
     omega
    clear hst
    have c1:((((s[q]'hql).toNat:Int))==10)=false:=by rw[beq_eq_false_iff_ne];exact h10
    go_wp2;go_roundg (s.size-(q+1))
    case rel=>exact⟨q+1,by omega,by omega,by go_num,HE.out,rfl⟩
    case measure=>omega
   have HE:Hid (p+runN nlI (s.data.toList.drop p)=q):=by
    have h1:=runN_le nlI (s.data.toList.drop p);have h2:=HQ.out;rw[List.length_drop,hsl] at h1
    show _=_
    omega
   have hqi:¬ (q:Int)<s.size:=by omega
   go_wp2
   try rw[Exit.noGoto_ret]
   go_ret3;exact LexPost.ok (HC.out _ (LexR.cmt HCM.out (by rw[HE.out];exact LexR.fin (by omega)))) (hown.alloc _) (hbel.alloc hbs _)
  unfold blank at hbl;simp only[Bool.or_eq_true,decide_eq_true_eq] at hbl
  have HBL:Hid (blank (s[p]'hlt)=true):=by
   show blank (s[p]'hlt)=true
   rw[a7];unfold blank;simp only[Bool.or_eq_true,decide_eq_true_eq];exact hbl
  rcases hbl with((h | h) | h) | h
  all_goals
    subst h
    go_wp2
    go_roundg (s.size-(p+1))
    case rel=>exact⟨p+1,acc,by omega,by go_num,hal,fun r h=>HC.out r (LexR.blank HG.out HBL.out h),hown.alloc _,hbel.alloc hbs _⟩
    case measure=>omega
 have hlti:¬ (p:Int)<s.size:=by omega
 go_wp2
 try rw[Exit.noGoto_ret]
 go_ret3;exact LexPost.ok (HC.out _ (LexR.fin (by omega))) hown hbel
end Go.Proofs.YtphmpkpcamgjeaaGreatDoor.Lx
namespace Go.Proofs.YtphmpkpcamgjeaaGreatDoor.Lx
open Go.ChangeShapes Go.WideShapes Go.ChangeAt Go.RowKit Go.Proofs.Tryz Go.Shelf
def LexPostS (s:ByteArray) (w:World) (e:Ending) (w':World):Prop:=
  ∃ r,LexR s.data.toList 0 [] r/\(match r with
 | .ok ts=>∃ v,e=.returned (.tuple #[v,.int .i64 0,.int .i64 0])/\w'.ownsRow w.heap.size 50 3 v ts.length (tcells ts)
 | .err c p=>∃ b,e=.returned (.tuple #[.slice b 0 0,.int .i64 c,.int .i64 (p:Int)]))/\Below w.heap.size w w'
theorem LexPostS.ok {s:ByteArray} {w w':World} {ts:List Tok} {v:Value} (h:LexR s.data.toList 0 [] (.ok ts)) (ho:w'.ownsRow w.heap.size 50 3 v ts.length (tcells ts)) (hb:Below w.heap.size w w') :
    LexPostS s w (.returned (.tuple #[v,.int .i64 0,.int .i64 0])) w':=⟨_,h,⟨v,rfl,ho⟩,hb⟩
theorem LexPostS.err {s:ByteArray} {w w':World} {c q:Int} {p:Nat} {b:Option Addr} (h:LexR s.data.toList 0 [] (.err c p)) (hq:q=(p:Int)) (hb:Below w.heap.size w w') :
    LexPostS s w (.returned (.tuple #[.slice b 0 0,.int .i64 c,.int .i64 q])) w':=⟨_,h,⟨b,by rw[hq]⟩,hb⟩
theorem lexS_any (s:ByteArray) (w:World) (hs:s.size<=8000):Calls prog 9 #[.string s] w fun e w'=>LexPostS s w e w':=by
 have hsl:s.data.toList.length=s.size:=by simp
 obtain⟨i0,hi,a8,a7,a9⟩:=info_parts b6C;have a4:=fun w=>b1x s 0 w hs (by omega);have a5:∀ w,Calls prog 20 #[.string s,.int .i64 0] w fun e w'=>∃ q:Nat,a4X s.data.toList 0 q/\q<=s.size/\e=.returned (.int .i64 q)/\w'=w:=a4;clear a4;go_enter func9,ntmps9;go_wp2_with (go_at_call 20;refine(a5 _).mono ?_;rintro e w' ⟨q0,a1,a2,rfl,rfl⟩;have a6:Hid (a4X s.data.toList 0 q0):=a1;clear a1);go_loopw [5,6] (fun v i wr=>∃ (p:Nat) (acc:List Tok),p<=s.size/\i=.int .i64 p/\acc.length<=2000/\Hid (p<s.size->∃ c,s.data.toList[p]?=some c/\blank c=false/\a2H s.data.toList p=false)/\Hid (∀ r,LexR s.data.toList p acc r->LexR s.data.toList 0 [] r)/\wr.ownsRow w.heap.size 50 3 v acc.length (tcells acc)/\Below w.heap.size w wr) (fun _ i _=>s.size-(intOf i).toNat)
 case atStart=>
  refine⟨q0,[],a2,rfl,by simp,fun h=>a6.out.2.2.2 (by omega),fun r h=>a6.out.2.2.1 [] r h,?_,(Below.refl _ _).alloc (Nat.le_refl _) _⟩;exact World.ownsRow_made w #[] 0 (Nat.le_refl _) (by unfold maxLen;omega) (by simp)
 case round=>
 obtain⟨p,acc,hp,rfl,hal,HN,HC,hown,hbel⟩:=hrel;have hbs:=hbel.size;obtain⟨la,lc,b0⟩:=a4H hown;subst b0;by_cases hlt:p<s.size
 .have hlti:(p:Int)<s.size:=by omega
  obtain⟨c0,hg,hbl,hcm⟩:=HN.out hlt;have HG:Hid (s.data.toList[p]?=some c0):=hg;have HBL:Hid (blank c0=false):=hbl;have HCM:Hid (a2H s.data.toList p=false):=hcm;clear hg hbl hcm HN;by_cases hm:acc.length=2000
  .have hmi:((acc.length:Int)==2000)=true:=by rw[beq_iff_eq];omega
   have HM:Hid (acc.length=2000):=hm;clear hm;go_wp2;go_ret3;exact LexPostS.err (HC.out _ (LexR.many HG.out HBL.out HCM.out HM.out)) rfl (hbel.alloc hbs _)
  have hmi:((acc.length:Int)==2000)=false:=by rw[beq_eq_false_iff_ne];omega
  have htk:=fun w=>b4K s p w hs hlt
  cases hcl:cutL (s.data.toList.drop p) with
  | err c f=>
   rw[hcl] at htk;simp only[cutT] at htk;have HK:Hid (cutL (s.data.toList.drop p)=.err c f):=hcl;have hce:=cut_err hcl;rw[List.length_drop,hsl] at hce
   have hcne:(c != 0)=true:=by rw[bne_iff_ne];omega
   obtain⟨E,hE⟩:∃ E:Int,((p+f:Nat):Int)=E:=⟨_,rfl⟩;rw[hE] at htk;have HE:Hid (E=((p+f:Nat):Int)):=hE.symm;clear hcl hE;go_wp2_with (go_at_call 21;refine(htk _).mono ?_;rintro e w1 ⟨rfl,a0⟩;have a3:Below w.heap.size w w1:=hbel.trans (a0.mono hbs);have b1:wr.heap.size<=w1.heap.size:=a0.size;clear a0);go_ret3;exact LexPostS.err (HC.out _ (LexR.bad HG.out HBL.out HCM.out hm HK.out)) HE.out ((a3.alloc (by omega) _).alloc (by simp;omega) _)
  | tok k x n=>
  rw[hcl] at htk;simp only[cutT] at htk;have HK:Hid (cutL (s.data.toList.drop p)=.tok k x n):=hcl;have hn:=cut_size hcl;rw[List.length_drop,hsl] at hn;have hsk:=fun w=>b1x s (p+n) w hs (by omega);obtain⟨E,hE⟩:∃ E:Int,((p+n:Nat):Int)=E:=⟨_,rfl⟩;rw[hE] at htk hsk;clear hcl hE
  go_wp2_with (first | (go_at_call 21;refine(htk _).mono ?_;rintro e w1 ⟨rfl,a0⟩;have a3:Below w.heap.size w w1:=hbel.trans (a0.mono hbs);have b1:wr.heap.size<=w1.heap.size:=a0.size;have b2:=own_below hown a0;clear a0) | (go_at_call 20;refine(hsk _).mono ?_;rintro e w' ⟨q,a1,a2,rfl,rfl⟩;have HQ:Hid (a4X s.data.toList (p+n) q):=a1;clear a1) | (at_builtin;refine wpList_append_own _ rfl (.tmp 40) (.tmp 42) 30 rfl w.heap.size 50 i0 (.agg #[.int .i64 0,.string ⟨#[]⟩,.int .i64 0]) 3 32 underlying30 hi a8 a7 a9 rfl (by decide) (.slice la acc.length lc) acc.length (tcells acc) rfl ((b2.alloc _).alloc _) ⟨_,0,none⟩ 1 1 [.int .i64 k,.string ⟨x.toArray⟩,.int .i64 (p:Int)] rfl rfl (cells3 _ _ (by simp) _ _ _ _) (by intro u hu;simp at hu;rcases hu with rfl | rfl | rfl<;>rfl) (by unfold maxLen;omega) (by omega) (by simp;omega) ?_;intro v' w2 hown' hgrow _))
  have b3:Hid (Below w.heap.size w w'):=Below.grown ((a3.alloc (by omega) _).alloc (by simp;omega) _) hgrow (by simp;omega) (fun k hk=>(hown.lt k hk).1)
  have HO:Hid (w'.ownsRow w.heap.size 50 3 v' (acc++[(k,x,p)]).length (tcells (acc++[(k,x,p)]))):=by
   show w'.ownsRow w.heap.size 50 3 v' (acc++[(k,x,p)]).length (tcells (acc++[(k,x,p)]))
   rw[a2e];simpa using hown'
  clear hown' hgrow;have hqp:=HQ.out.1;go_roundw
  case rel=>exact⟨q,acc++[(k,x,p)],a2,rfl,by simp;omega,fun h=>HQ.out.2.2.2 (by omega),fun r h=>HC.out r (LexR.tok HG.out HBL.out HCM.out hm HK.out (HQ.out.2.2.1 _ r h)),HO.out,b3.out⟩
  case measure=>simp[intOf];omega
 have hlti:¬ (p:Int)<s.size:=by omega
 go_wp2;go_ret3;exact LexPostS.ok (HC.out _ (LexR.fin (by omega))) hown hbel
end Go.Proofs.YtphmpkpcamgjeaaGreatDoor.Lx
