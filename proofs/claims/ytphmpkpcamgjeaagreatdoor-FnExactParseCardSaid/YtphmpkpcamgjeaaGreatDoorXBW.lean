import Derived.Test.YtphmpkpcamgjeaaGreatDoorXBQ
import Derived.Test.YtphmpkpcamgjeaaGreatDoorXBV
import Derived.Test.YtphmpkpcamgjeaaGreatDoorXCA
set_option linter.unusedVariables false
set_option linter.unusedSimpArgs false
set_option maxRecDepth 100000
set_option maxHeartbeats 16000000
namespace Go.Proofs.YtphmpkpcamgjeaaGreatDoor
open Go.ChangeShapes Go.WideShapes Go.ChangeAt Go.RowKit Go.Proofs.Tryz
open Go.Maps
theorem NO.keepB {w w':World} {B:Nat} {D:Nat->Prop} (hk:∀ g,B<=g->w'.heap[g]?=w.heap[g]?):∀ {xs:List Value} {ts:List Nd} {ks:List Value},NO w B D xs ts ks->NO w' B D xs ts ks
 | _,[],[],h=>h
 | _,t::r,kv::ks,⟨ys,a,b,d,e,c⟩=>⟨ys,a,a0L b (fun g hg=>hk g (a2Y b hg)),d,e,NO.keepB hk c⟩
 | _,[],_::_,h=>h.elim
 | _,_::_,[],h=>h.elim
theorem NO.loose {w:World} {B B':Nat} {D:Nat->Prop} (hB:B'<=B):∀ {xs:List Value} {ts:List Nd} {ks:List Value},NO w B D xs ts ks->NO w B' D xs ts ks
 | _,[],[],h=>h
 | _,t::r,kv::ks,⟨ys,a,b,d,e,c⟩=>⟨ys,a,a3x b hB,d,e,NO.loose hB c⟩
 | _,[],_::_,h=>h.elim
 | _,_::_,[],h=>h.elim
theorem TR.keepB {w w':World} {B:Nat} {v:Value} {o:List Nd} {xs ks:List Value} (h:TR w B v o xs ks) (hk:∀ g,B<=g->w'.heap[g]?=w.heap[g]?):TR w' B v o xs ks:=
  ⟨a0L h.row (fun g hg=>hk g (a2Y h.row hg)),h.no.keepB hk⟩
theorem TR.loose {w:World} {B B':Nat} {v:Value} {o:List Nd} {xs ks:List Value} (h:TR w B v o xs ks) (hB:B'<=B):TR w B' v o xs ks:=⟨a3x h.row hB,h.no.loose hB⟩
theorem b2L (R:List Nd×Int×Int) (src:ByteArray) (a:Nat) (w:World) (hQ:QG w) (ha:w.cell? ⟨a,0,none⟩=some (.string src)) (hR:∀ W,QG W->Calls prog 16 #[.string src] W fun e w'=>PostT R W e w') :
 Calls prog 15 #[.pointer (some ⟨a,0,none⟩)] w fun e w'=>Below w.heap.size w w'/\((∃ oa n oc,e=.returned (.agg #[.slice oa n oc])/\(R.2.1=0/\R.2.2=0/\∃ xs ks,TR w' w.heap.size (.slice oa n oc) R.1 xs ks))\/∃ c p,e=.panicked (flt c p)/\(c=R.2.1/\p=R.2.2/\R.1=[])):=by
 have hal:a<w.heap.size:=by
  rcases Nat.lt_or_ge a w.heap.size with h | h
  .exact h
  simp[World.cell?,Array.getElem?_eq_none h] at ha
 have b0:=below_alloc w (.cells #[.slice none 0 0] 24);have a1:=(b0.cell (p:=⟨a,0,none⟩) hal).trans ha;have n1:=heap_alloc_new w (.cells #[.slice none 0 0] 24);have Q1:=hQ.below b0
 have l1:w.heap.size<(w.alloc (.cells #[.slice none 0 0] 24)).heap.size:=by simp
 go_enter func15,ntmps15;go_wp2_with fail;refine(hR _ Q1).mono ?_;rintro e w1 ⟨b1,hh⟩;have n2:=(b1.block w.heap.size l1).trans n1;have a0:=b0.trans (b1.mono b0.size);rcases hh with⟨h0,h1,v,xs,ks,rfl,tr⟩ | ⟨h0,h1,rfl⟩
 .obtain⟨oa,n,oc,rfl⟩:∃ oa n oc,v=.slice oa n oc:=by
   obtain⟨a,c,e⟩:=a2c tr.row;exact⟨a,_,c,e⟩
  have c1:w1.cell? ⟨w.heap.size,0,none⟩=some (.slice none 0 0):=(cell_of n2).1;have f1:w1.frozen? ⟨w.heap.size,0,none⟩=false:=(cell_of n2).2;have e5:=heap_setCell_same w1 w.heap.size 0 _ _ (.slice oa n oc) n2;have k6:(w1.setCell ⟨w.heap.size,0,none⟩ (.slice oa n oc)).cell? ⟨w.heap.size,0,none⟩=some (.slice oa n oc):=(cell_of e5).1;have a2:=a0.setCell (p:=⟨w.heap.size,0,none⟩) (Nat.le_refl _) (.slice oa n oc);have a3:TR (w1.setCell ⟨w.heap.size,0,none⟩ (.slice oa n oc)) w.heap.size (.slice oa n oc) R.1 xs ks:=(tr.keepB (fun g hg=>heap_setCell_other w1 ⟨w.heap.size,0,none⟩ g _ (by dsimp only;omega))).loose b0.size;clear n1 n2 e5 tr b1 b0 a0 a1 Q1 l1;go_wp2;exact bodyPost_ret (v:=.agg #[.slice oa n oc]) (by simp[results,results15,go_sem,k6]) rfl ⟨a2,.inl ⟨oa,n,oc,rfl,h0,h1,xs,ks,a3⟩⟩
 clear n1 n2 b1 b0 a1 Q1 l1;go_wp2;exact⟨rfl,a0,.inr ⟨_,_,rfl,rfl,rfl,h1⟩⟩
theorem a6u (R:List Nd×Int×Int) (src:ByteArray) (w:World) (hQ:QG w) (hR:∀ W,QG W->Calls prog 16 #[.string src] W fun e w'=>PostT R W e w') :
 Calls prog 5 #[.string src] w fun e w'=>∃ v xs ks,e=.returned (.tuple #[.agg #[v],.int .i64 R.2.1,.int .i64 R.2.2])/\TR w' w.heap.size v R.1 xs ks/\Below w.heap.size w w':=by
 obtain⟨Ro,Rc,Rp⟩:=R;have hmf:∀ (fn:Fn) (first cap:Array Value) (w:World),(Instr.makeFunc fn first cap).run prog w=.ok (.func fn first cap) w:=fun _ _ _ _=>rfl;have b0:Below w.heap.size w ((w.alloc (.cells #[.string src] 9)).alloc (.cells #[.slice none 0 0] 24)):=((Below.refl _ w).alloc (Nat.le_refl _) _).alloc (by simp) _;have n1:((w.alloc (.cells #[.string src] 9)).alloc (.cells #[.slice none 0 0] 24)).heap[w.heap.size]?=some (.cells #[.string src] 9 (0,0)):=((below_alloc _ _).block w.heap.size (by simp)).trans (heap_alloc_new _ _)
 have n2:((w.alloc (.cells #[.string src] 9)).alloc (.cells #[.slice none 0 0] 24)).heap[w.heap.size+1]?=some (.cells #[.slice none 0 0] 24 (0,0)):=by simpa using heap_alloc_new (w.alloc (.cells #[.string src] 9)) (.cells #[.slice none 0 0] 24)
 have hsz:((w.alloc (.cells #[.string src] 9)).alloc (.cells #[.slice none 0 0] 24)).heap.size=w.heap.size+2:=by simp
 go_enter func5,ntmps5;go_wp2_with fail;generalize (w.alloc (.cells #[.string src] 9)).alloc (.cells #[.slice none 0 0] 24)=W at *;have Q1:=hQ.below b0;have bc:Below W.heap.size W (cW W):=(((Below.refl _ W).alloc (Nat.le_refl _) _).alloc (by simp) _).alloc (by simp;omega) _;have hcs:=b4G W;have a1:=b2L (Ro,Rc,Rp) src w.heap.size (cW W) (Q1.below bc) ((bc.cell (p:=⟨w.heap.size,0,none⟩) (show w.heap.size<W.heap.size by omega)).trans (cell_of n1).1) hR;refine(b6g w.heap.size W Q1.er a1).mono ?_;rintro e w1 ⟨b1,hh⟩;have m2:=(b1.block (w.heap.size+1) (by omega)).trans n2;have a0:=b0.trans (b1.mono b0.size);have c1:w1.cell? ⟨w.heap.size+1,0,none⟩=some (.slice none 0 0):=(cell_of m2).1;have f1:w1.frozen? ⟨w.heap.size+1,0,none⟩=false:=(cell_of m2).2
 rcases hh with⟨oa,n,oc,w2,rfl,⟨h0,h1,xs,ks,tr⟩,hk,_⟩ | ⟨c,p,rfl,rfl,rfl,ho⟩
 .change Rc=0 at h0;change Rp=0 at h1;subst h0;subst h1;change TR w2 _ _ Ro xs ks at tr;have e5:=heap_setCell_same w1 (w.heap.size+1) 0 _ _ (.slice oa n oc) m2;have k6:(w1.setCell ⟨w.heap.size+1,0,none⟩ (.slice oa n oc)).cell? ⟨w.heap.size+1,0,none⟩=some (.slice oa n oc):=(cell_of e5).1;have a2:=a0.setCell (p:=⟨w.heap.size+1,0,none⟩) (by simp) (.slice oa n oc);have a3:TR (w1.setCell ⟨w.heap.size+1,0,none⟩ (.slice oa n oc)) w.heap.size (.slice oa n oc) Ro xs ks:=((tr.keepB (w':=w1) (fun g hg=>hk g (by omega))).keepB (fun g hg=>heap_setCell_other w1 ⟨w.heap.size+1,0,none⟩ g _ (by dsimp only;omega))).loose (by omega);clear n1 n2 m2 e5 tr b1 b0 a0 Q1 hsz hcs bc a1 hk;go_wp2;exact bodyPost_ret (v:=.tuple #[.agg #[.slice oa n oc],.int .i64 0,.int .i64 0]) (by simp[results,results5,go_sem,k6]) rfl ⟨_,xs,ks,rfl,a3,a2⟩
 change Ro=[] at ho;subst ho;have e5:=heap_setCell_same w1 (w.heap.size+1) 0 _ _ (.slice none 0 0) m2;have k6:(w1.setCell ⟨w.heap.size+1,0,none⟩ (.slice none 0 0)).cell? ⟨w.heap.size+1,0,none⟩=some (.slice none 0 0):=(cell_of e5).1;have a2:=a0.setCell (p:=⟨w.heap.size+1,0,none⟩) (by simp) (.slice none 0 0);clear n1 n2 m2 e5 b1 b0 a0 Q1 hsz hcs bc a1;go_wp2;exact bodyPost_ret (v:=.tuple #[.agg #[.slice none 0 0],.int .i64 c,.int .i64 p]) (by simp[results,results5,go_sem,k6]) rfl ⟨_,[],[],rfl,⟨World.ownsRow_nil _ _ _ _,rfl⟩,a2⟩
end Go.Proofs.YtphmpkpcamgjeaaGreatDoor
namespace Go.Proofs.YtphmpkpcamgjeaaGreatDoor
open Go.ChangeShapes Go.WideShapes Go.ChangeAt Go.RowKit Go.Proofs.Tryz
theorem b8p (s:ByteArray) (w:World) (hs:8000<s.size) (hm:s.size<=maxLen):Calls prog 30 #[.string s] w fun e w'=>e=.returned (.tuple #[.slice none 0 0,.int .i64 5,.int .i64 0])/\w'=w:=by
 have hz':(8000:Int)<s.size:=by omega
 unfold maxLen at hm;go_enter func30,ntmps30;go_wp2
 try go_step3
 go_wp2
 try rw[Exit.noGoto_ret]
 go_ret3;exact⟨rfl,rfl⟩
theorem b6n (s:ByteArray) (w:World) (hs:8000<s.size) (hm:s.size<=maxLen):Calls prog 9 #[.string s] w fun e w'=>∃ b,e=.returned (.tuple #[.slice b 0 0,.int .i64 5,.int .i64 0])/\Below w.heap.size w w':=by
 have hz':(8000:Int)<s.size:=by omega
 unfold maxLen at hm;go_enter func9,ntmps9;go_wp2;go_ret3;exact⟨_,rfl,(Below.refl _ _).alloc (Nat.le_refl _) _⟩
theorem b4L {l:List UInt8} {k:Nat} {acc:List Lx.Tok} {r:Lx.LexRes} (h:Lx.LexR l k acc r):∀ c p,r=.err c p->c≠0:=by
 induction h with
 | blank h hb nx ih=>exact ih
 | cmt hc nx ih=>exact ih
 | tok h hb hc hm hk nx ih=>exact ih
 | fin h=>intro c p e;cases e
 | many h hb hc hm=>intro c p e;cases e;decide
 | bad h hb hc hm hk=>
 intro c p e;cases e;have:=(Lx.cut_err hk).1;omega
theorem b2N (s:ByteArray) (w:World) (hs:s.size<=maxLen) (hQ:QG w):Calls prog 3 #[.string s] w fun e w'=>e=.returned (.bool true)/\Below w.heap.size w w':=by
 have nil:(([]:List Nd).length<=4000000/\∀ t∈([]:List Nd),t.kids.length<=10000):=⟨by simp,fun t ht=>by simp at ht⟩
 have bad:∀ c p:Int,c≠0->s.size<=1048576->(∀ w,Calls prog 9 #[.string s] w fun e w'=>∃ b,e=.returned (.tuple #[.slice b 0 0,.int .i64 c,.int .i64 p])/\Below w.heap.size w w')->(∀ w,QG w->Calls prog 30 #[.string s] w fun e w'=>e=.returned (.tuple #[.slice none 0 0,.int .i64 c,.int .i64 p])/\Below w.heap.size w w')->Calls prog 3 #[.string s] w fun e w'=>e=.returned (.bool true)/\Below w.heap.size w w':=fun c p hc hz h1 h2=>
   a8j s [] c p w hz hQ (fun w _=>(b2F s c p w hc h1).mono (fun e w' ⟨v,a,b,d⟩=>⟨v,a,b,nil,d⟩)) (fun w hw=>a6u ([],c,p) s w hw (fun W hW=>a8h s c p W hc (h2 W hW)))
 by_cases hz:s.size<=1048576
 .by_cases h8:s.size<=8000
  .have hdet:∀ r,Lx.LexR s.data.toList 0 [] r->(∀ ts,r=.ok ts->Calls prog 3 #[.string s] w fun e w'=>e=.returned (.bool true)/\Below w.heap.size w w')/\(∀ c p,r=.err c p->Calls prog 3 #[.string s] w fun e w'=>e=.returned (.bool true)/\Below w.heap.size w w'):=fun r hr=>by
    refine⟨fun ts he=>?_,fun c p he=>?_⟩
    .subst he;have hT:=TokS.of h8 hr;refine a8j s (a3f (a0A s ts)).1 (a3f (a0A s ts)).2.1 (a3f (a0A s ts)).2.2 w hz hQ (fun w _=>b4z s ts w hT (fun w=>(Lx.lexS_any s w h8).mono ?_)) (fun w hw=>a6u (a3f (a0A s ts)) s w hw (fun W hW=>b0E s ts W hT hW.ml ((Lx.lex_any s W h8 hW.tb).mono ?_)))
     .rintro e w' ⟨r,h,h2,hb⟩;cases hr.det h;obtain⟨v,rfl,ho⟩:=h2;exact⟨v,rfl,ho,hb⟩
     rintro e w' ⟨r,h,h2,hb⟩;cases hr.det h;obtain⟨v,rfl,ho⟩:=h2;exact⟨v,rfl,ho,hb⟩
    subst he;refine bad c p (b4L hr c p rfl) hz (fun w=>(Lx.lexS_any s w h8).mono ?_) (fun w hw=>(Lx.lex_any s w h8 hw.tb).mono ?_)
    .rintro e w' ⟨r,h,h2,hb⟩;cases hr.det h;obtain⟨b,rfl⟩:=h2;exact⟨b,rfl,hb⟩
    rintro e w' ⟨r,h,h2,hb⟩;cases hr.det h;exact⟨h2,hb⟩
   by_cases hex:∃ r,Lx.LexR s.data.toList 0 [] r
   .obtain⟨r,hr⟩:=hex
    cases r with
    | ok ts=>exact(hdet _ hr).1 ts rfl
    | err c p=>
    exact(hdet _ hr).2 c p rfl
   refine bad 1 0 (by decide) hz (fun w=>(Lx.lexS_any s w h8).mono ?_) (fun w hw=>(Lx.lex_any s w h8 hw.tb).mono ?_)
   .rintro e w' ⟨r,h,_⟩;exact(hex ⟨r,h⟩).elim
   rintro e w' ⟨r,h,_⟩;exact(hex ⟨r,h⟩).elim
  refine bad 5 0 (by decide) hz (fun w=>b6n s w (by omega) hs) (fun w hw=>(b8p s w (by omega) hs).mono ?_);rintro e w' ⟨rfl,rfl⟩;exact⟨rfl,Below.refl _ _⟩
 exact b2M s w hs (by omega)
end Go.Proofs.YtphmpkpcamgjeaaGreatDoor
