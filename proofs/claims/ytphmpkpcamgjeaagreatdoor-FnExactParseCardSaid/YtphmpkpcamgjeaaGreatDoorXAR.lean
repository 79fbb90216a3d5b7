import Derived.Test.YtphmpkpcamgjeaaGreatDoorXAQ
import Derived.Maps.OwnSet
import Derived.StringKeys
import Derived.Test.YtphmpkpcamgjeaaGreatDoorXAA
import Derived.LaidEql
import Derived.Stop.Asserts
import Derived.RowKitTokens
set_option linter.unusedVariables false
set_option linter.unusedSimpArgs false
set_option maxRecDepth 100000
set_option maxHeartbeats 16000000
namespace Go.Proofs.YtphmpkpcamgjeaaGreatDoor
open Go.ChangeShapes Go.WideShapes Go.ChangeAt Go.RowKit Go.Proofs.Tryz
open Go.Maps
def MLt (w:World):Prop:=tag w 3 3/\∃ m,w.cell? ⟨3,0,none⟩=some (.int .i64 m)
theorem MLt.heap {w w':World} (h:MLt w) (e:w'.heap[3]?=w.heap[3]?):MLt w':=by
 obtain⟨h1,m,h2⟩:=h;exact⟨a4g h1 e,m,(World.cell?_of_block (a:=⟨3,0,none⟩) e).trans h2⟩
def NO (w:World) (B:Nat) (D:Nat->Prop):List Value->List Nd->List Value->Prop
 | xs,[],[]=>xs=[]
 | xs,t::r,kv::ks=>∃ ys,xs=ndC t kv++ys/\w.ownsRow B 3 1 kv t.kids.length (kidC t.kids)/\Out D kv/\(∀ k∈ks,∀ g,k.ownBlock=some g->kv.ownBlock≠some g)/\NO w B D ys r ks
 | _,_,_=>False
theorem NO.keep {w w':World} {B:Nat} {D:Nat->Prop} (hs:w.heap.size<=w'.heap.size) (hk:∀ g,tag w g 3->¬ D g->w'.heap[g]?=w.heap[g]?):∀ {xs:List Value} {ts:List Nd} {ks:List Value},NO w B D xs ts ks->NO w' B D xs ts ks
 | _,[],[],h=>h
 | _,t::r,kv::ks,⟨ys,a,b,d,e,c⟩=>⟨ys,a,a0L b (fun g hg=>hk g (a0n b hg) (d g hg)),d,e,NO.keep hs hk c⟩
 | _,[],_::_,h=>h.elim
 | _,_::_,[],h=>h.elim
theorem NO.snoc {w:World} {B:Nat} {D:Nat->Prop} {t:Nd} {kv:Value} (hk:w.ownsRow B 3 1 kv t.kids.length (kidC t.kids)) (hd:Out D kv):∀ {xs:List Value} {ts:List Nd} {ks:List Value},(∀ k∈ks,∀ g,kv.ownBlock=some g->k.ownBlock≠some g)->NO w B D xs ts ks->NO w B D (xs++ndC t kv) (ts++[t]) (ks++[kv])
 | xs,[],[],_,h=>⟨[],by rw[show xs=[] from h];simp,hk,hd,fun k h=>by simp at h,rfl⟩
 | xs,u::r,ku::ks,hn,⟨ys,a,b,d,e,c⟩=>⟨ys++ndC t kv,by rw[a,List.append_assoc],b,d,fun k hm g hg=>by
  rcases List.mem_append.1 hm with z | z
  .exact e k z g hg
  simp at z;subst z;exact hn ku List.mem_cons_self g hg,NO.snoc hk hd (fun k hm=>hn k (List.mem_cons_of_mem _ hm)) c⟩
 | _,[],_::_,_,h=>h.elim
 | _,_::_,[],_,h=>h.elim
theorem NO.sub2 {w w':World} {B:Nat} {D D':Nat->Prop} (hd:∀ g,g<w.heap.size->D' g->D g):∀ {xs:List Value} {ts:List Nd} {ks:List Value},NO w' B D xs ts ks->NO w B D xs ts ks->NO w' B D' xs ts ks
 | _,[],[],h,_=>h
 | _,t::r,kv::ks,⟨ys,a,b,d,e,c⟩,⟨zs,a2,b2,d2,e2,c2⟩=>⟨ys,a,b,fun g hg h2=>d g hg (hd g (b2.lt g hg).2 h2),e,NO.sub2 hd c (by
      have:ys=zs:=List.append_cancel_left (a.symm.trans a2)
      rw[this];exact c2)⟩
 | _,[],_::_,h,_=>h.elim
 | _,_::_,[],h,_=>h.elim
theorem NO.outs {w:World} {B:Nat} {D:Nat->Prop}:∀ {xs:List Value} {ts:List Nd} {ks:List Value},NO w B D xs ts ks->∀ k∈ks,Out D k
 | _,[],[],_,k,hk=>by simp at hk
 | _,t::r,kv::ks,⟨ys,a,b,d,e,c⟩,k,hk=>by
  rcases List.mem_cons.1 hk with z | z
  .subst z;exact d
  exact NO.outs c k z
 | _,[],_::_,h,_,_=>h.elim
 | _,_::_,[],h,_,_=>h.elim
structure IM (V:Env) (Mx:DataW Unit) (r B:Nat) (D:Nat->Prop) (w:World) (p:Nat) (o:List Nd):Prop where
  le:p<=V.ts.length
  br:B<=r
  ml:MLt w
  mD:¬ D 3
  hb:B<=w.heap.size
  dl:∀ g,D g->g<w.heap.size
  ex:∃ tv mb ov xs ks,w.heap[r]?=some (.cells #[tv,.int .i64 p,.int .i64 V.en,.map (some mb),ov] 64 (0,0))/\TL 50 3 CT w tv V.ts/\w.ownsMap prog 9 (unitElem (H:=Unit)) mb 77 Mx/\w.ownsRow B 42 10 ov o.length xs/\NO w B D xs o ks
structure IV (V:Env) (Mx:DataW Unit):Prop where
  n:V.ts.length<=2000
  en0:0<=V.en
  en1:V.en<=8000
  tz:∀ p,(V.tx p).size<=8000
  mx:∀ p,has Mx (.string (V.tx p).data.toList)=V.rs (V.tx p)
theorem a1I {P:Program} {k:TypeId} {R:Value->Option (DataW Unit×List MemPlace)} {w w':World} {b n:Nat} {M:DataW Unit} (h:w.ownsMap P k R b n M) (e:w'.heap[b]?=w.heap[b]?):w'.ownsMap P k R b n M:=by
 obtain⟨es,clock,hb,F,hs,hD⟩:=h;exact⟨es,clock,e.trans hb,F,hs,hD⟩
theorem a3T {P:Program} {k:TypeId} {R:Value->Option (DataW Unit×List MemPlace)} {w:World} {b n:Nat} {M:DataW Unit} (h:w.ownsMap P k R b n M) {g ty:Nat} (ht:tag w g ty):b≠g:=fun e=>by
 obtain⟨es,clock,hb,_⟩:=h;obtain⟨c,f,x⟩:=ht;rw[e,x] at hb;cases hb
section
variable {V : Env} {Mx : DataW Unit} {r B : Nat} {D : Nat -> Prop} {w : World} {p : Nat} {o : List Nd}
theorem IM.rt (h:IM V Mx r B D w p o):tag w r 64:=by
 obtain⟨tv,mb,ov,xs,ks,h1,_⟩:=h.ex;exact⟨_,_,h1⟩
theorem IM.rl (h:IM V Mx r B D w p o):r<w.heap.size:=a0x h.rt
theorem IM.obt (h:IM V Mx r B D w p o) {g:Nat} (hg:ob 4 r w=some g):tag w g 42:=by
 obtain⟨tv,mb,ov,xs,ks,h1,_,_,h2,_⟩:=h.ex;unfold ob at hg;rw[(cell_of h1 (j:=4)).1] at hg;exact a0n h2 (by simpa using hg)
theorem IM.sp (h:IM V Mx r B D w p o):Sp 4 r w w:=Sp.refl h.rl
theorem IM.nb (h:IM V Mx r B D w p o) {g ty:Nat} (ht:tag w g ty) (h1:ty≠64) (h2:ty≠42):NB 4 r w g:=
  ⟨a0x ht,a0t ht h.rt h1,fun e=>a0t ht (h.obt e) h2 rfl⟩
theorem IM.keepD (h:IM V Mx r B D w p o) {w':World} {D':Nat->Prop} (hl:∀ g,D' g->g<w'.heap.size) (hd:∀ g,g<w.heap.size->D' g->D g) (hs:w.heap.size<=w'.heap.size) (hr:w'.heap[r]?=w.heap[r]?) (ho:∀ g,ob 4 r w=some g->w'.heap[g]?=w.heap[g]?) (ht:∀ g,tag w g 50->w'.heap[g]?=w.heap[g]?) (hk:∀ g,tag w g 3->¬ D g->w'.heap[g]?=w.heap[g]?) (hm:∀ g,g<w.heap.size->(∀ ty,¬ tag w g ty)->w'.heap[g]?=w.heap[g]?):IM V Mx r B D' w' p o:=by
 obtain⟨tv,mb,ov,xs,ks,h1,h2,h5,h3,h4⟩:=h.ex;refine⟨h.le,h.br,h.ml.heap (hk 3 h.ml.1 h.mD),fun e=>h.mD (hd 3 (a0x h.ml.1) e),Nat.le_trans h.hb hs,hl,tv,mb,ov,xs,ks,hr.trans h1,TL.keep h2 hs ht (fun h=>h),a1I h5 (hm mb h5.lt (fun ty hty=>a3T h5 hty rfl)),a0L h3 (fun g hg=>ho g ?_),(h4.keep hs hk).sub2 hd h4⟩;unfold ob;rw[(cell_of h1 (j:=4)).1];simpa using hg
theorem IM.keep (h:IM V Mx r B D w p o) {w':World} (hs:w.heap.size<=w'.heap.size) (hr:w'.heap[r]?=w.heap[r]?) (ho:∀ g,ob 4 r w=some g->w'.heap[g]?=w.heap[g]?) (ht:∀ g,tag w g 50->w'.heap[g]?=w.heap[g]?) (hk:∀ g,tag w g 3->¬ D g->w'.heap[g]?=w.heap[g]?) (hm:∀ g,g<w.heap.size->(∀ ty,¬ tag w g ty)->w'.heap[g]?=w.heap[g]?):IM V Mx r B D w' p o:=
  h.keepD (fun g hg=>Nat.lt_of_lt_of_le (h.dl g hg) hs) (fun _ _ h=>h) hs hr ho ht hk hm
theorem IM.belowD (h:IM V Mx r B D w p o) {w':World} {D':Nat->Prop} (hl:∀ g,D' g->g<w'.heap.size) (hd:∀ g,g<w.heap.size->D' g->D g) (hb:Below w.heap.size w w'):IM V Mx r B D' w' p o:=
  h.keepD hl hd hb.size (hb.block r h.rl) (fun g hg=>hb.block g (a0x (h.obt hg))) (fun g hg=>hb.block g (a0x hg)) (fun g hg _=>hb.block g (a0x hg)) (fun g hg _=>hb.block g hg)
theorem IM.below (h:IM V Mx r B D w p o) {w':World} (hb:Below w.heap.size w w'):IM V Mx r B D w' p o:=
  h.keep hb.size (hb.block r h.rl) (fun g hg=>hb.block g (a0x (h.obt hg))) (fun g hg=>hb.block g (a0x hg)) (fun g hg _=>hb.block g (a0x hg)) (fun g hg _=>hb.block g hg)
theorem IM.alloc (h:IM V Mx r B D w p o) (x:Obj):IM V Mx r B D (w.alloc x) p o:=h.below (below_alloc _ _)
theorem IM.sub (h:IM V Mx r B D w p o) {D':Nat->Prop} (hd:∀ g,D' g->D g):IM V Mx r B D' w p o:=h.belowD (fun g hg=>h.dl g (hd g hg)) (fun g _ hg=>hd g hg) (Below.refl _ _)
theorem IM.setN (h:IM V Mx r B D w p o) {c j ty:Nat} (u:Value) (hn:NB 4 r w c) (ht:tag w c ty) (h1:ty≠50) (h2:ty≠3\/D c):IM V Mx r B D (w.setCell ⟨c,j,none⟩ u) p o:=
  have k:∀ g,g≠c->(w.setCell ⟨c,j,none⟩ u).heap[g]?=w.heap[g]?:=fun g hg=>heap_setCell_other w _ g u hg
 h.keep (by simp) (k r (fun e=>hn.2.1 e.symm)) (fun g hg=>k g (fun e=>hn.2.2 (e ▸ hg))) (fun g hg=>k g (a0t hg ht (Ne.symm h1))) (fun g hg hd=>k g (fun e=>by
 rcases h2 with z | z
 .exact a0t hg ht (Ne.symm z) e
 exact hd (e ▸ z))) (fun g hg hm=>k g (fun e=>hm ty (e ▸ ht)))
theorem IM.growD (h:IM V Mx r B D w p o) {w':World} {D':Nat->Prop} {row:Option Nat} (hl:∀ g,D' g->g<w'.heap.size) (hd':∀ g,g<w.heap.size->D' g->D g) (hg:w.grownBy w' row) (hd:∀ g,row=some g->D g/\tag w g 3):IM V Mx r B D' w' p o:=by
 have k:∀ g,g<w.heap.size->(∀ c,row=some c->g≠c)->w'.heap[g]?=w.heap[g]?:=fun g h1 h2=>hg.block g h1 (fun e=>h2 g e.symm rfl);exact h.keepD hl hd' hg.size (k r h.rl (fun c hc=>a0t h.rt (hd c hc).2 (by decide))) (fun g e=>k g (a0x (h.obt e)) (fun c hc=>a0t (h.obt e) (hd c hc).2 (by decide))) (fun g e=>k g (a0x e) (fun c hc=>a0t e (hd c hc).2 (by decide))) (fun g e e2=>k g (a0x e) (fun c hc e3=>e2 (e3 ▸ (hd c hc).1))) (fun g e e2=>k g e (fun c hc e3=>e2 _ (e3 ▸ (hd c hc).2)))
theorem IM.at (h:IM V Mx r B D w p o) {q:Nat} (hq:q<=V.ts.length) {z:Int} (hz:z=(q:Int)):IM V Mx r B D (w.setCell ⟨r,1,none⟩ (.int .i64 z)) q o:=by
 subst hz;obtain⟨tv,mb,ov,xs,ks,h1,h2,h5,h3,h4⟩:=h.ex;have k:∀ g,g≠r->(w.setCell ⟨r,1,none⟩ (.int .i64 (q:Int))).heap[g]?=w.heap[g]?:=fun g hg=>heap_setCell_other w _ g _ hg
 have hs:w.heap.size<=(w.setCell ⟨r,1,none⟩ (.int .i64 (q:Int))).heap.size:=by simp
 exact⟨hq,h.br,h.ml.heap (k 3 (a0t h.ml.1 h.rt (by decide))),h.mD,Nat.le_trans h.hb hs,fun g hg=>Nat.lt_of_lt_of_le (h.dl g hg) hs,tv,mb,ov,xs,ks,by rw[heap_setCell_same w r 1 _ _ _ h1];rfl,TL.keep h2 hs (fun g hg=>k g (a0t hg h.rt (by decide))) (fun h=>h),a1I h5 (k mb (a3T h5 h.rt)),a0L h3 (fun g hg=>k g (a0t (a0n h3 hg) h.rt (by decide))),h4.keep hs (fun g hg _=>k g (a0t hg h.rt (by decide)))⟩
theorem IM.cells (h:IM V Mx r B D w p o):∃ ta tc mb oa oc,w.cell? ⟨r,0,none⟩=some (.slice ta V.ts.length tc)/\w.cell? ⟨r,1,none⟩=some (.int .i64 p)/\w.cell? ⟨r,2,none⟩=some (.int .i64 V.en)/\w.cell? ⟨r,3,none⟩=some (.map (some mb))/\w.cell? ⟨r,4,none⟩=some (.slice oa o.length oc)/\(∀ j,w.frozen? ⟨r,j,none⟩=false)/\w.ownsMap prog 9 (unitElem (H:=Unit)) mb 77 Mx /\
 (0<V.ts.length->∃ g q,ta=some ⟨g,q,none⟩/\∀ i,i<V.ts.length->w.cell? ⟨g,q+i*3,none⟩=some (.int .i64 (V.kd i))/\w.cell? ⟨g,q+i*3+1,none⟩=some (.string (V.tx i))/\w.cell? ⟨g,q+i*3+2,none⟩=some (.int .i64 (V.pos i))):=by
 obtain⟨tv,mb,ov,xs,ks,h1,⟨⟨ta,tc,rfl,h2⟩,_⟩,h5,⟨h3,h4⟩,_⟩:=h.ex
 have hov:∃ oa oc,ov=.slice oa o.length oc:=by
  rcases h4 with⟨rfl,h0⟩ | ⟨g,cap,cur,rfl,_⟩
  .exact⟨none,0,by rw[h0]⟩
  exact⟨_,_,rfl⟩
 obtain⟨oa,oc,rfl⟩:=hov;refine⟨ta,tc,mb,oa,oc,(cell_of h1).1,(cell_of h1).1,(cell_of h1).1,(cell_of h1).1,(cell_of h1).1,fun j=>(cell_of h1).2,h5,fun hp=>?_⟩;obtain⟨g,q,e,_,_,h5⟩:=h2 hp;refine⟨g,q,e,fun i hi=>?_⟩;obtain⟨cs,hc,h6⟩:=h5 i hi;unfold CT at hc;subst hc
 have ht:V.tk i=V.ts[i]:=by simp[Env.tk,List.getElem?_eq_getElem hi]
 have a:=h6 0 (by omega);have b:=h6 1 (by omega);have c:=h6 2 (by omega);simp only[Env.kd,Env.tx,Env.pos,ht];exact⟨a,b,c⟩
end
end Go.Proofs.YtphmpkpcamgjeaaGreatDoor
namespace Go.Proofs.YtphmpkpcamgjeaaGreatDoor
open Go.ChangeShapes Go.WideShapes Go.ChangeAt Go.RowKit Go.Proofs.Tryz
theorem Lp.listU {V:Env} {A:M Int} {k:Nat} {ks:List Int} {F:List Nd->R (List Int)} {p:Nat} {x:Option (List Nd)} {m q:Nat} {y:Option (List Nd)} {m2 d c:Nat} (l:Lp V d c F (a1w V A k ks q) p x m q y m2) (hk:∀ o,y=some o->V.ts.length-q<k):Lp V d c F (fun o=>(A q o).bind fun a q3 o=>if sees V q3 a1c then a1w V A (k-1) (ks++[a]) (q3+1) o else .ok (ks++[a]) q3 o) p x m q y m2:=
 l.congr (fun o e=>by
 have:=hk o e;obtain⟨k',rfl⟩:∃ k',k=k'+1:=⟨k-1,by omega⟩;rfl)
theorem R.bind_bind {α β γ:Type} (r:R α) (f:α->Nat->List Nd->R β) (g:β->Nat->List Nd->R γ):(r.bind f).bind g=r.bind fun a p o=>(f a p o).bind g:=by cases r<;>rfl
theorem a5t {V:Env} {src:ByteArray} (hV:VO V src) (hE:SV V) {r B:Nat} {D:Nat->Prop} {w:World} {p:Nat} {x:Option (List Nd)} {m:Nat} (h:SM V src r B D w p x m) (hp:pot V p x m+10<=4000000) :
 Calls prog 85 #[.pointer (some ⟨r,0,none⟩)] w fun e w'=>b6u V src r B D 10 (a0F V (a0R V) p) w p x m e w':=by
 have hT:=hV.n;have hle:=h.le;have k0:=PK.new0 h (Nat.le_refl _);have s0:=h.sp.alloc (.cells #[] 3);have l0:=Lp.refl V (a0F V (a0R V) p) p x m;go_enter func85,ntmps85;go_wp2_with fail;go_loopw [3] (fun kv wr=>∃ (ks:List Int) (k q:Nat) (y:Option (List Nd)) (m1:Nat),PK V src r B D w.heap.size wr q y m1 kv ks/\Sp 3 r w wr/\Hid (∀ o,y=some o->V.ts.length-q<k)/\Lp V 0 (1000*ks.length) (a0F V (a0R V) p) (a1w V (a0R V) k ks q) p x m q y m1/\Hid (ks.length<=4100)) (fun _ wr=>V.ts.length-atN r wr)
 case atStart=>exact⟨[],V.ts.length+1,p,x,m,k0,s0,(fun o _=>by omega:∀ o,x=some o->V.ts.length-p<V.ts.length+1),l0,(by simp:([]:List Int).length<=4100)⟩
 case round=>
 obtain⟨ks,k,q,y,m2,k2,s2,HK,l2,HL⟩:=hrel;have h2:=k2.sm;have a6:=h2.le;have a9:=l2.le;have hkl:=HL.out;have a1:=h2.atN;have a2:Lp V 0 (1000*ks.length) (a0F V (a0R V) p) _ p x m q y m2:=(l2.listU HK.out).congr (fun o _=>R.bind_bind (name V q o) (fun s q3 o=>lay { op:=42,name:=s,pos:=V.pos q } q3 o) _);go_wp2_with fail;refine(a0C hV h2).mono ?_;rintro e w3 ⟨rfl,b3⟩;have k3:=k2.below b3;have s3:=s2.below b3;go_wp2_with fail;refine(name_any hV hE k3.sm).mono ?_;rintro e w4 ⟨q4,y4,a4,rfl,h4,z4,r4⟩;have k4:=k3.step h4 z4;have s4:=s3.trans z4;have b0:=r4.le;have b1:=a0r (V:=V) (p:=q4) (x:=y4) (m:=m2);have l4:=a2.bind r4;obtain⟨ta,tc,oa,oc,c0,c1,c2,c3,c4,f2,f3,f4,ht⟩:=h4.cells
 cases y4 with
 | none=>
  have HR:=hid ((l4.weak (d':=10) (c':=510) (by omega) (by omega)).done (a:=ks) (fun o e=>by cases e));go_wp2;go_ret;exact⟨_,_,_,_,_,rfl,k4,s4,HR.out,by omega⟩
 | some o4=>
 have a7:=(l4.ok rfl).1;go_wp2_with fail;refine(a0g h4 (by omega) { op:=42,name:=a4,pos:=V.pos q } (.slice none 0 0) (TL.nil _ _ _ _) (fun h=>by simp at h)).mono ?_;rintro e w5 ⟨rfl,h5,z5,r5⟩;have k5:=k4.step h5 z5;have s5:=s4.trans z5;have l5:=l4.bind r5;go_wp2_with (at_builtin;refine a6d rfl _ _ rfl rfl k5 (m2:Int) rfl rfl (by omega) ?_;intro v6 w6 k6 f6);have s6:=f6 w s5 (Nat.le_refl _);go_wp2_with fail;refine(a0b hV k6.sm a1c).mono ?_;rintro e w7 ⟨b7,rfl,t7,h7,z7⟩;have k7:=k6.step h7 z7;have s7:=s6.trans z7
 have b2:(ks++[(m2:Int)]).length=ks.length+1:=by simp
 cases b7 with
 | false=>
  have HR:=hid (((l5.tkF t7 (fun _=>rfl)).weak (d':=10) (c':=510) (by omega) (by omega)).done (fun _ _=>rfl));go_wp2;go_ret;exact⟨_,_,_,_,_,rfl,k7,s7,HR.out,by omega⟩
 | true=>
 obtain⟨o7,e7,_,b4⟩:=t7.yes;obtain⟨_,oy,ey⟩:=r4.ok rfl;have b5:=HK.out oy ey;have l7:=(l5.tkT t7 (fun _=>rfl)).norm e7 (1000*(ks++[(m2:Int)]).length) (by omega);have hup:=r4.up;have a8:=h7.le;have a0:=h7.atN;simp only[stp,if_true] at a0;have hpo:=(l7.ok e7).1;have a3:=hid ((fun o _=>by omega):∀ o,Option.map (·++[{ op:=42,name:=a4,pos:=V.pos q }]) (some o4)=some o->V.ts.length-(q4+1)<k-1);have a5:=hid ((by omega):(ks++[(m2:Int)]).length<=4100);go_wp2;go_roundw
 case rel=>exact⟨_,_,_,_,_,k7,s7,a3,l7,a5⟩
 case measure=>rw[a1,a0];omega
def ndA (t:Nd) (kv:Value):Array Value:=#[.int .i64 t.op,.string t.name,.string t.qual,.int .i64 t.n,.int .i64 t.m,.int .i64 t.vk,.int .i64 t.vn,.string t.vs,kv,.int .i64 t.pos]
structure NV (V:Env) (src:ByteArray) (r B:Nat) (D:Nat->Prop) (b:Nat) (w:World) (p:Nat) (x:Option (List Nd)) (m g:Nat) (t:Nd) (v:Value) (ks:List Int):Prop where
  pk:PK V src r B D b w p x m v ks
  cell:w.heap[g]?=some (.cells (ndA t v) 42 (0,0))
  nb:NB 3 r w g
  lo:b<=g
section
variable {V : Env} {src : ByteArray} {r B : Nat} {D : Nat -> Prop} {b : Nat} {w : World} {p : Nat} {x : Option (List Nd)} {m g : Nat} {t : Nd} {v : Value} {ks : List Int}
theorem NV.step (h:NV V src r B D b w p x m g t v ks) {w':World} {q:Nat} {y:Option (List Nd)} {m':Nat} (s:SM V src r B (fun g=>D g\/v.ownBlock=some g) w' q y m') (f:Sp 3 r w w'):NV V src r B D b w' q y m' g t v ks:=
  ⟨h.pk.step s f,(h.nb.heap f).trans h.cell,h.nb.sp f,h.lo⟩
theorem NV.below (h:NV V src r B D b w p x m g t v ks) {w':World} (hb:Below w.heap.size w w'):NV V src r B D b w' p x m g t v ks:=h.step (h.pk.sm.below hb) (h.pk.sm.sp.below hb)
theorem NV.new (h:SM V src r B D w p x m) (hb:b<=w.heap.size) (t:Nd):NV V src r B D b (w.alloc (.cells (ndA t (.slice none 0 0)) 42)) p x m w.heap.size t (.slice none 0 0) []:=
 ⟨PK.nil (h.alloc _) (by simp;omega),heap_alloc_new _ _,⟨by simp,fun e=>by have:=h.rl;omega,fun e=>by
 have hs:ob 3 r (w.alloc (.cells (ndA t (.slice none 0 0)) 42))=ob 3 r w:=a3w ((below_alloc w _).block r h.rl);rw[hs] at e;have:=a0x (h.obt e);omega⟩,hb⟩
theorem NV.tg (h:NV V src r B D b w p x m g t v ks):tag w g 42:=⟨_,_,h.cell⟩
theorem NV.cells (h:NV V src r B D b w p x m g t v ks):w.cell? ⟨g,0,none⟩=some (.int .i64 t.op)/\w.cell? ⟨g,1,none⟩=some (.string t.name)/\w.cell? ⟨g,2,none⟩=some (.string t.qual)/\w.cell? ⟨g,3,none⟩=some (.int .i64 t.n)/\w.cell? ⟨g,4,none⟩=some (.int .i64 t.m)/\w.cell? ⟨g,5,none⟩=some (.int .i64 t.vk)/\w.cell? ⟨g,6,none⟩=some (.int .i64 t.vn)/\w.cell? ⟨g,7,none⟩=some (.string t.vs)/\w.cell? ⟨g,8,none⟩=some v/\w.cell? ⟨g,9,none⟩=some (.int .i64 t.pos):=
  ⟨(cell_of h.cell).1,(cell_of h.cell).1,(cell_of h.cell).1,(cell_of h.cell).1,(cell_of h.cell).1,(cell_of h.cell).1,(cell_of h.cell).1,(cell_of h.cell).1,(cell_of h.cell).1,(cell_of h.cell).1⟩
theorem NV.fz (h:NV V src r B D b w p x m g t v ks) (j:Nat):w.frozen? ⟨g,j,none⟩=false:=(cell_of h.cell).2
theorem NV.set (h:NV V src r B D b w p x m g t v ks) (j:Nat) (u:Value) (t':Nd) (he:(ndA t v).setIfInBounds j u=ndA t' v):NV V src r B D b (w.setCell ⟨g,j,none⟩ u) p x m g t' v ks:=
  have hk:∀ c,c≠g->(w.setCell ⟨g,j,none⟩ u).heap[c]?=w.heap[c]?:=fun c hc=>heap_setCell_other w _ c u hc
  have hr:(w.setCell ⟨g,j,none⟩ u).heap[r]?=w.heap[r]?:=hk r (fun e=>h.nb.2.1 e.symm)
  ⟨⟨h.pk.sm.setN u h.nb h.tg,a0L h.pk.row (fun c hc=>hk c (a0t (a0n h.pk.row hc) h.tg (by decide))),by have:=h.pk.bl;simpa using this⟩,by rw[heap_setCell_same w g j _ _ u h.cell,he],⟨by simpa using h.nb.1,h.nb.2.1,fun e=>h.nb.2.2 (by rw[<- a3w hr];exact e)⟩,h.lo⟩
theorem NV.push (h:NV V src r B D b w p x m g t v ks) {w1 w2:World} {v':Value} {ks':List Int} {q:Nat} {y:Option (List Nd)} {m':Nat} (hb:Below w.heap.size w w1) (pk:PK V src r B D b w2 q y m' v' ks') (hg:w1.grownBy w2 v.ownBlock) (hw:Sp 3 r w w2\/True) (ho:ob 3 r w2=ob 3 r w1):NV V src r B D b (w2.setCell ⟨g,8,none⟩ v') q y m' g t v' ks':=by
 have hbs:=hb.size;have hgl:=h.nb.1;have e1:w2.heap[g]?=w.heap[g]?:=(hg.block g (by omega) (fun e=>a0t h.tg (a0n h.pk.row e.symm) (by decide) rfl)).trans (hb.block g hgl);have a1:w2.heap[g]?=some (.cells (ndA t v) 42 (0,0)):=e1.trans h.cell;have a3:ob 3 r w1=ob 3 r w:=a3w (hb.block r h.pk.sm.rl);have a0:NB 3 r w2 g:=⟨(Array.getElem?_eq_some_iff.1 a1).1,h.nb.2.1,fun e=>h.nb.2.2 (by rw[<- a3,<- ho];exact e)⟩;have hk:∀ c,c≠g->(w2.setCell ⟨g,8,none⟩ v').heap[c]?=w2.heap[c]?:=fun c hc=>heap_setCell_other w2 _ c v' hc;have hr:(w2.setCell ⟨g,8,none⟩ v').heap[r]?=w2.heap[r]?:=hk r (fun e=>h.nb.2.1 e.symm);have a2:tag w2 g 42:=⟨_,_,a1⟩
 exact⟨⟨pk.sm.setN v' a0 a2,a0L pk.row (fun c hc=>hk c (a0t (a0n pk.row hc) a2 (by decide))),by have:=pk.bl;simpa using this⟩,by rw[heap_setCell_same w2 g 8 _ _ v' a1];rfl,⟨by simpa using a0.1,a0.2.1,fun e=>a0.2.2 (by rw[<- a3w hr];exact e)⟩,h.lo⟩
theorem NV.kid (h:NV V src r B D b w p x m g t v ks) (k:Int) (hl:ks.length<=100000) :
 ∃ na nl nc w',(Builtin.append_ #[37,37] 37 #[v,.slice (some ⟨w.heap.size,0,none⟩) 1 1]).run prog (w.alloc (.cells #[.int .i64 k] 3))=.ok (.slice na nl nc) w'/\NV V src r B D b (w'.setCell ⟨g,8,none⟩ (.slice na nl nc)) p x m g t (.slice na nl nc) (ks++[k])/\(∀ w0,Sp 3 r w0 w->w0.heap.size<=b->Sp 3 r w0 (w'.setCell ⟨g,8,none⟩ (.slice na nl nc)))/\w'.cell? ⟨g,8,none⟩=some v/\w'.frozen? ⟨g,8,none⟩=false:=by
 obtain⟨v',w',h1,h2,h3,h4,_⟩:=a5r h.pk k hl;obtain⟨na,nc,e⟩:=a2c h2.row;subst e;have hgl:=h.nb.1;have e1:w'.heap[g]?=w.heap[g]?:=(h4.block g (by simp;omega) (fun e=>a0t h.tg (a0n h.pk.row e.symm) (by decide) rfl)).trans ((below_alloc w _).block g hgl);have hrl:=h.pk.sm.rl;have e2:w'.heap[r]?=(w.alloc (.cells #[.int .i64 k] 3)).heap[r]?:=h4.block r (by simp;omega) (fun e=>a0t h.pk.sm.rt (a0n h.pk.row e.symm) (by decide) rfl);have a0:w'.heap[g]?=some (.cells (ndA t v) 42 (0,0)):=e1.trans h.cell;exact⟨na,_,nc,w',h1,h.push (below_alloc _ _) h2 h4 (.inr trivial) (a3w e2),fun w0 s a1=>(h3 w0 s a1).set _ (Nat.le_trans a1 h.lo),(cell_of a0).1,(cell_of a0).2⟩
end
theorem b7j {V:Env} {src:ByteArray} {n:Nat} {E:M Int} (hV:VO V src) (hA:a0w V src 87 10 n E):a0w V src 55 12 n (keyF V E):=fun {r B D w p x m} h hn hp=>by
 have hT:=hV.n;have hle:=h.le;have l0:=Lp.refl V (keyF V E p) p x m;have f1:=l0.le;go_enter func55,ntmps55;go_wp2_with fail;refine(a0C hV h).mono ?_;rintro e w1 ⟨rfl,b1⟩;have h1:=h.below b1;have s1:=h.sp.below b1;have f2:=NV.new (b:=w.heap.size) h1 (by have:=s1.size;omega) { op:=29,pos:=V.pos (p) };have s2:=s1.alloc (.cells (ndA { op:=29,pos:=V.pos (p) } (.slice none 0 0)) 42);go_wp2;refine a0a (S:=(fun W=>W.cell? ⟨w1.heap.size,8,none⟩=some (.slice none 0 0))) (late:=[6,7]) (by kernel_rfl) (by first | exact f2.cells.2.2.2.2.2.2.2.2.1 | go_keep) (fun hHeld=>?_);refine tT 0 rfl hHeld ?_
 try simp only[Act.put,q1,q2,q3]
 refine tL 1 rfl hHeld ?_
 try simp only[Act.put,q1,q2,q3]
 refine tT 2 rfl hHeld ?_
 try simp only[Act.put,q1,q2,q3]
 refine rE 3 rfl fun K hK=>?_;go_simp;have g3:=f2.below ((Below.refl _ _).drew);refine(hA g3.pk.sm (l0.fuel hn) (by omega)).mono ?_;rintro e w3 ⟨a3,q3,y3,m3,rfl,h3,z3,r3⟩;have f3:=g3.step h3 z3;have s3:=s2.drew.trans z3;have g0:=r3.le;have l3:=l0.bind r3;have g1:=l3.le;obtain⟨g2,g4,g6,w4,c1,f4,x4,e0,g8⟩:=f3.kid a3 (by first | (simp;done) | (simp;omega) | omega);refine hK _ _ ⟨f3.cells.2.2.2.2.2.2.2.2.1,?_⟩;clear hK K
 try simp only[Act.put,q1,q2,q3]
 refine rE 4 rfl fun K hK=>?_;go_simp;refine hK _ _ ⟨(f3.below (below_alloc _ _)).cells.2.2.2.2.2.2.2.2.1,?_⟩;clear hK K
 try simp only[Act.put,q1,q2,q3]
 refine rE 5 rfl fun K hK=>?_;refine a0e rfl (.tmp 8) (.tmp 11) 37 rfl _ _ rfl rfl _ _ c1 ?_;refine hK _ _ ⟨e0,?_⟩;clear hK K c1
 try simp only[Act.put,q1,q2,q3]
 refine rL 6 rfl fun K hK=>?_;go_simp;refine hK _ _ ?_;clear hK K
 try simp only[Act.put,q1,q2,q3]
 refine rL 7 rfl fun K hK=>?_;go_simp;refine hK _ _ ?_;clear hK K
 try simp only[Act.put,q1,q2,q3]
 refine a0h (by kernel_rfl) ?_ _;have s4:=x4 w s3 (by first | exact Nat.le_refl _ | omega);go_wp2_with fail;refine(a0b hV f4.pk.sm a7n).mono ?_;rintro e w5 ⟨c5,rfl,t5,h5,z5⟩
 cases c5 with
 | false=>
  replace h5:SM V src r B _ w5 q3 y3 m3:=h5;have f5:=f4.step h5 z5;have s5:=s4.trans z5;have l5:=l3.tkF t5;have e1:=l5.le;go_wp2_with fail;refine(a0b hV f5.pk.sm b3h).mono ?_;rintro e w6 ⟨c6,rfl,t6,h6,z6⟩;have f6:=f5.step h6 z6;have s6:=s5.trans z6;have l6:=l5.opt (fun b=>keyE V a3 0 (V.pos p) (q3+stp b)) t6 (fun _=>rfl);have h0:=l6.le;go_wp2_with fail;refine(a0b hV f6.pk.sm a4y).mono ?_;rintro e w7 ⟨c7,rfl,t7,h7,z7⟩
  cases c7 with
  | false=>
   replace h7:SM V src r B _ w7 (q3+stp c6) y3 m3:=h7;have f7:=f6.step h7 z7;have s7:=s6.trans z7;have l7:=l6.tkF t7;have a7:=l7.le;obtain⟨d0,d1,d2,d3,d4,d5,d6,d7,d8,d9⟩:=f7.cells;have dz:=f7.fz;go_wp2_with fail;refine(a0g f7.pk.out (by have:=a0r (V:=V) (p:=(q3+stp c6)) (x:=y3) (m:=m3);omega) { op:=29,n:=0,m:=0,kids:=[a3],pos:=V.pos (p) } _ f7.pk.kids (fun _=>f7.pk.far (fun g hg=>h.dl g hg))).mono ?_;rintro e w8 ⟨rfl,h8,z8,r8⟩;have s8:=s7.trans z8;have HR:=hid (l7.last r8);go_wp2;go_ret;exact⟨_,_,_,_,rfl,h8,s8,HR.out.weak (by omega) (by omega)⟩
  | true=>
  replace h7:SM V src r B _ w7 ((q3+stp c6)+1) y3 m3:=h7;have f7:=f6.step h7 z7;have s7:=s6.trans z7;obtain⟨o7,e7,g7,e2⟩:=t7.yes;have l7:=l6.tkT t7;have a7:=l7.le;have c2:=h7.le;obtain⟨d0,d1,d2,d3,d4,d5,d6,d7,d8,d9⟩:=f7.cells;have dz:=f7.fz;go_wp2_with fail;clear d0 d1 d2 d3 d4 d5 d6 d7 d8 d9 dz;have f8:=f7.set 4 (.int .i64 1) { op:=29,n:=0,m:=1,pos:=V.pos (p) } rfl;have s8:=s7.set (j:=4) (.int .i64 1) f7.lo;go_wp2_with fail;refine(a0b hV f8.pk.sm a1o).mono ?_;rintro e w9 ⟨c9,rfl,t9,h9,z9⟩
  cases c9 with
  | true=>
   replace h9:SM V src r B _ w9 (((q3+stp c6)+1)+1) y3 m3:=h9;have f9:=f8.step h9 z9;have s9:=s8.trans z9;obtain⟨o9,e9,g9,e3⟩:=t9.yes;have l9:=l7.tkT t9;have a8:=l9.le;have c3:=h9.le;obtain⟨d0,d1,d2,d3,d4,d5,d6,d7,d8,d9⟩:=f9.cells;have dz:=f9.fz;go_wp2_with fail;refine(a0g f9.pk.out (by have:=a0r (V:=V) (p:=(((q3+stp c6)+1)+1)) (x:=y3) (m:=m3);omega) { op:=29,n:=0,m:=1,kids:=[a3],pos:=V.pos (p) } _ f9.pk.kids (fun _=>f9.pk.far (fun g hg=>h.dl g hg))).mono ?_;rintro e e4 ⟨rfl,a9,b0,b2⟩;have a1:=s9.trans b0;have HR:=hid (l9.lastS e9 b2);go_wp2;go_ret;exact⟨_,_,_,_,rfl,a9,a1,HR.out.weak (by omega) (by omega)⟩
  | false=>
  replace h9:SM V src r B _ w9 ((q3+stp c6)+1) y3 m3:=h9;have f9:=f8.step h9 z9;have s9:=s8.trans z9;have l9:=l7.tkF t9;have a8:=l9.le;obtain⟨d0,d1,d2,d3,d4,d5,d6,d7,d8,d9⟩:=f9.cells;have dz:=f9.fz;go_wp2_with fail;clear d0 d1 d2 d3 d4 d5 d6 d7 d8 d9 dz;have a2:=f9.set 4 (.int .i64 2) { op:=29,n:=0,m:=2,pos:=V.pos (p) } rfl;have a1:=s9.set (j:=4) (.int .i64 2) f9.lo;go_wp2_with fail;refine(a0i hV a2.pk.sm a1W).mono ?_;rintro e e6 ⟨b3,b4,rfl,b5,a4,a5⟩;have a0:=a2.step b5 a4;have b6:=a1.trans a4;have c4:=a5.le;have a6:=l9.pay e7 a5 (fun _=>rfl);have c8:=a6.le;obtain⟨d0,d1,d2,d3,d4,d5,d6,d7,d8,d9⟩:=a0.cells;have dz:=a0.fz;go_wp2_with fail
  refine(a0g a0.pk.out (by have:=a0r (V:=V) (p:=b3) (x:=b4) (m:=m3);omega) { op:=29,n:=0,m:=2,kids:=[a3],pos:=V.pos (p) } _ a0.pk.kids (fun _=>a0.pk.far (fun g hg=>h.dl g hg))).mono ?_;rintro e e8 ⟨rfl,b7,b8,b9⟩;have c0:=b6.trans b8;have HR:=hid (a6.last b9);go_wp2;go_ret;exact⟨_,_,_,_,rfl,b7,c0,HR.out.weak (by omega) (by omega)⟩
 | true=>
 replace h5:SM V src r B _ w5 (q3+1) y3 m3:=h5;have f5:=f4.step h5 z5;have s5:=s4.trans z5;obtain⟨o5,e5,g5,h2⟩:=t5.yes;have l5:=l3.tkT t5;have e1:=l5.le;have f0:=h5.le;obtain⟨d0,d1,d2,d3,d4,d5,d6,d7,d8,d9⟩:=f5.cells;have dz:=f5.fz;go_wp2_with fail;clear d0 d1 d2 d3 d4 d5 d6 d7 d8 d9 dz;have f6:=f5.set 3 (.int .i64 1) { op:=29,n:=1,pos:=V.pos (p) } rfl;have s6:=s5.set (j:=3) (.int .i64 1) f5.lo;go_wp2_with fail;refine(a0b hV f6.pk.sm a4y).mono ?_;rintro e w7 ⟨c7,rfl,t7,h7,z7⟩
 cases c7 with
 | false=>
  replace h7:SM V src r B _ w7 (q3+1) y3 m3:=h7;have f7:=f6.step h7 z7;have s7:=s6.trans z7;have l7:=l5.tkF t7;have a7:=l7.le;obtain⟨d0,d1,d2,d3,d4,d5,d6,d7,d8,d9⟩:=f7.cells;have dz:=f7.fz;go_wp2_with fail;refine(a0g f7.pk.out (by have:=a0r (V:=V) (p:=(q3+1)) (x:=y3) (m:=m3);omega) { op:=29,n:=1,m:=0,kids:=[a3],pos:=V.pos (p) } _ f7.pk.kids (fun _=>f7.pk.far (fun g hg=>h.dl g hg))).mono ?_;rintro e w8 ⟨rfl,h8,z8,r8⟩;have s8:=s7.trans z8;have HR:=hid (l7.lastS e5 r8);go_wp2;go_ret;exact⟨_,_,_,_,rfl,h8,s8,HR.out.weak (by omega) (by omega)⟩
 | true=>
 replace h7:SM V src r B _ w7 ((q3+1)+1) y3 m3:=h7;have f7:=f6.step h7 z7;have s7:=s6.trans z7;obtain⟨o7,e7,g7,e2⟩:=t7.yes;have l7:=l5.tkT t7;have a7:=l7.le;have c2:=h7.le;obtain⟨d0,d1,d2,d3,d4,d5,d6,d7,d8,d9⟩:=f7.cells;have dz:=f7.fz;go_wp2_with fail;clear d0 d1 d2 d3 d4 d5 d6 d7 d8 d9 dz;have f8:=f7.set 4 (.int .i64 1) { op:=29,n:=1,m:=1,pos:=V.pos (p) } rfl;have s8:=s7.set (j:=4) (.int .i64 1) f7.lo;go_wp2_with fail;refine(a0b hV f8.pk.sm a1o).mono ?_;rintro e w9 ⟨c9,rfl,t9,h9,z9⟩
 cases c9 with
 | true=>
  replace h9:SM V src r B _ w9 (((q3+1)+1)+1) y3 m3:=h9;have f9:=f8.step h9 z9;have s9:=s8.trans z9;obtain⟨o9,e9,g9,e3⟩:=t9.yes;have l9:=l7.tkT t9;have a8:=l9.le;have c3:=h9.le;obtain⟨d0,d1,d2,d3,d4,d5,d6,d7,d8,d9⟩:=f9.cells;have dz:=f9.fz;go_wp2_with fail;refine(a0g f9.pk.out (by have:=a0r (V:=V) (p:=(((q3+1)+1)+1)) (x:=y3) (m:=m3);omega) { op:=29,n:=1,m:=1,kids:=[a3],pos:=V.pos (p) } _ f9.pk.kids (fun _=>f9.pk.far (fun g hg=>h.dl g hg))).mono ?_;rintro e e4 ⟨rfl,a9,b0,b2⟩;have a1:=s9.trans b0;have HR:=hid (l9.lastS e9 b2);go_wp2;go_ret;exact⟨_,_,_,_,rfl,a9,a1,HR.out.weak (by omega) (by omega)⟩
 | false=>
 replace h9:SM V src r B _ w9 ((q3+1)+1) y3 m3:=h9;have f9:=f8.step h9 z9;have s9:=s8.trans z9;have l9:=l7.tkF t9;have a8:=l9.le;obtain⟨d0,d1,d2,d3,d4,d5,d6,d7,d8,d9⟩:=f9.cells;have dz:=f9.fz;go_wp2_with fail;clear d0 d1 d2 d3 d4 d5 d6 d7 d8 d9 dz;have a2:=f9.set 4 (.int .i64 2) { op:=29,n:=1,m:=2,pos:=V.pos (p) } rfl;have a1:=s9.set (j:=4) (.int .i64 2) f9.lo;go_wp2_with fail;refine(a0i hV a2.pk.sm a1W).mono ?_;rintro e e6 ⟨b3,b4,rfl,b5,a4,a5⟩;have a0:=a2.step b5 a4;have b6:=a1.trans a4;have c4:=a5.le;have a6:=l9.pay e7 a5 (fun _=>rfl);have c8:=a6.le;obtain⟨d0,d1,d2,d3,d4,d5,d6,d7,d8,d9⟩:=a0.cells;have dz:=a0.fz;go_wp2_with fail
 refine(a0g a0.pk.out (by have:=a0r (V:=V) (p:=b3) (x:=b4) (m:=m3);omega) { op:=29,n:=1,m:=2,kids:=[a3],pos:=V.pos (p) } _ a0.pk.kids (fun _=>a0.pk.far (fun g hg=>h.dl g hg))).mono ?_;rintro e e8 ⟨rfl,b7,b8,b9⟩;have c0:=b6.trans b8;have HR:=hid (a6.last b9);go_wp2;go_ret;exact⟨_,_,_,_,rfl,b7,c0,HR.out.weak (by omega) (by omega)⟩
end Go.Proofs.YtphmpkpcamgjeaaGreatDoor
namespace Go.Proofs.YtphmpkpcamgjeaaGreatDoor
open Go.ChangeShapes Go.WideShapes Go.ChangeAt Go.RowKit Go.Proofs.Tryz
open Go.Extern.Stop Go.Stop Go.Extern
theorem a8f (t:Addr) (w:World):(ReflectliteValue.unpack (.iface 86 (.pointer (some t)))).run prog w
    = .ok (.agg #[.pointer (some ⟨4,86,none⟩),.pointer (some ⟨w.heap.size,0,none⟩),.int .u64 150]) (w.alloc (.cells #[.pointer (some t)] 86)):=by kernel_rfl
theorem b4A (a:Addr) (w:World):(ReflectliteValue.methodAny (ReflectliteValue.valueError "reflectlite.Value.Type" 0) (fun t _ _ _=>ReflectliteType.toType t) #[.agg #[.pointer (some ⟨4,86,none⟩),.pointer (some a),.int .u64 150]]).run prog w
    = .ok (.iface 135 (.agg #[.pointer (some ⟨4,86,none⟩)])) w:=by kernel_rfl
theorem b4B (w:World):((ReflectliteType.abiMethod fun t=>(fun a:Nat=>Value.int IntKind.u8 (a:Int)) <$> Rtype.kind t) #[.pointer (some ⟨4,86,none⟩)]).run prog w=.ok (.int .u8 22) w:=by kernel_rfl
theorem b4C (w:World):((ReflectliteType.abiMethod fun t=>(fun a:Nat=>Value.int IntKind.u8 (a:Int)) <$> Rtype.kind t) #[.pointer (some ⟨4,60,none⟩)]).run prog w=.ok (.int .u8 25) w:=by kernel_rfl
theorem rlm (z:Sem Value) (f:TypeId->Addr->Nat->Nat->Sem Value) (v:Value) :
    ReflectliteValue.method z f #[v]=(do match <- ReflectliteValue.parts v with | none=>z | some (t,a,fl)=>f t a fl (fl%32)):=rfl
theorem a6t (a:Addr) (w:World):(ReflectliteValue.parts (.agg #[.pointer (some ⟨4,86,none⟩),.pointer (some a),.int .u64 150])).run prog w=.ok (some (86,a,150)) w:=by kernel_rfl
theorem b2H (a p:Addr) (W:World) (ha:W.cell? a=some (.pointer (some p))) :
 (ReflectliteValue.method (ReflectliteValue.valueError "reflectlite.Value.IsNil" 0) ReflectliteValue.isNil #[.agg #[.pointer (some ⟨4,86,none⟩),.pointer (some a),.int .u64 150]]).run prog W=.ok (.bool false) W:=by
 rw[rlm];simp only[Sem.run_bind,a6t,Result.andThen];simp[ReflectliteValue.isNil,loadVar,isAgg,underlying,underlying86,ha,Result.andThen]
theorem b4D (w:World):(ReflectliteType.method ReflectliteType.elem #[.agg #[.pointer (some ⟨4,86,none⟩)]]).run prog w=.ok (.iface 135 (.agg #[.pointer (some ⟨4,60,none⟩)])) w:=by kernel_rfl
theorem a5N (w:World):(ReflectliteType.relation "Implements" ReflectliteType.implements_ #[.agg #[.pointer (some ⟨4,60,none⟩)],.iface 135 (.agg #[.pointer (some ⟨4,83,none⟩)])]).run prog w=.ok (.bool true) w:=by kernel_rfl
theorem b0A (v:Value) (w:World):(ReflectliteType.typeOf #[.iface 60 v]).run prog w=.ok (.iface 135 (.agg #[.pointer (some ⟨4,60,none⟩)])) w:=by kernel_rfl
theorem a5O (w:World):(ReflectliteType.relation "AssignableTo" ReflectliteType.assignableTo #[.agg #[.pointer (some ⟨4,60,none⟩)],.iface 135 (.agg #[.pointer (some ⟨4,60,none⟩)])]).run prog w=.ok (.bool true) w:=by kernel_rfl
theorem a8g (c p:Int) (w:World):(ReflectliteValue.unpack (.iface 60 (.agg #[.int .i64 c,.int .i64 p]))).run prog w
    = .ok (.agg #[.pointer (some ⟨4,60,none⟩),.pointer (some ⟨w.heap.size,0,none⟩),.int .u64 153]) (w.alloc (.cells #[.int .i64 c,.int .i64 p] 60)):=by kernel_rfl
theorem b0B (w:World):(Rtype.elem? 86).run prog w=.ok (some 60) w:=by kernel_rfl
theorem b8l (p:Addr) (w:World):(ReflectliteValue.mk 60 p ReflectliteValue.flagAddr).run prog w=.ok (.agg #[.pointer (some ⟨4,60,none⟩),.pointer (some p),.int .u64 409]) w:=by kernel_rfl
theorem b2I (a p:Addr) (W:World) (ha:W.cell? a=some (.pointer (some p))) :
    (ReflectliteValue.method (ReflectliteValue.valueError "reflectlite.Value.Elem" 0) ReflectliteValue.elem #[.agg #[.pointer (some ⟨4,86,none⟩),.pointer (some a),.int .u64 150]]).run prog W
 = .ok (.agg #[.pointer (some ⟨4,60,none⟩),.pointer (some p),.int .u64 409]) W:=by
 rw[rlm];simp only[Sem.run_bind,a6t,Result.andThen];simp[ReflectliteValue.elem,loadVar,isAgg,underlying,underlying86,ha,Result.andThen,b0B,b8l]
theorem rls (v x : Value) : ReflectliteValue.set #[v, x] = (do
 let (some (dst, a, fl), some (src, b, _)) := (<- ReflectliteValue.parts v, <- ReflectliteValue.parts x)
  | unsupported (.noEntry "extern/(internal/reflectlite.Value).Set.zeroValue")
 if fl / ReflectliteValue.flagAddr % 2 == 0 then unsupported (.noEntry "extern/(internal/reflectlite.Value).Set.unaddressable")
 let val <- loadVar src b
 if <- Rtype.directlyAssignable dst src then storeVar dst a val
 else if <- Rtype.implements dst src then
  if (<- Rtype.kind src) == 20 then
   match val with
   | .nilIface => unsupported (.noEntry "extern/reflectlite: a nil value of one interface type handed on as a value of another")
   | _ => storeVar dst a val
  else storeVar dst a (.iface src val)
 else panicString ("reflectlite.Set: value of type " ++ (<- Rtype.spelt src) ++ " is not assignable to type " ++ (<- Rtype.spelt dst))
 pure (.tuple #[])) := rfl
theorem b0C (a:Addr) (w:World):(ReflectliteValue.parts (.agg #[.pointer (some ⟨4,60,none⟩),.pointer (some a),.int .u64 409])).run prog w=.ok (some (60,a,409)) w:=by kernel_rfl
theorem b2J (a:Addr) (w:World):(ReflectliteValue.parts (.agg #[.pointer (some ⟨4,60,none⟩),.pointer (some a),.int .u64 153])).run prog w=.ok (some (60,a,153)) w:=by kernel_rfl
theorem b0D (w:World):(Rtype.directlyAssignable 60 60).run prog w=.ok true w:=by kernel_rfl
end Go.Proofs.YtphmpkpcamgjeaaGreatDoor
