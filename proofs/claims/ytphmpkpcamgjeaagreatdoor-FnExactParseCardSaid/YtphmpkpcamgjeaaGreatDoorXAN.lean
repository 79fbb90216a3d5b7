import Derived.Test.YtphmpkpcamgjeaaGreatDoorXAA
import Derived.OrdersHeld
set_option linter.unusedVariables false
set_option linter.unusedSimpArgs false
set_option maxRecDepth 100000
set_option maxHeartbeats 16000000
namespace Go.Proofs.YtphmpkpcamgjeaaGreatDoor
open Go.ChangeShapes Go.WideShapes Go.ChangeAt Go.RowKit Go.Proofs.Tryz
def tag (w:World) (g ty:Nat):Prop:=∃ cur fz,w.heap[g]?=some (.cells cur ty fz)
theorem a0x {w:World} {g ty:Nat} (h:tag w g ty):g<w.heap.size:=by
 obtain⟨c,f,e⟩:=h;exact(Array.getElem?_eq_some_iff.1 e).1
theorem a0t {w:World} {g h s t:Nat} (hg:tag w g s) (hh:tag w h t) (hst:s≠t):g≠h:=fun e=>by
 subst e;obtain⟨c,f,h1⟩:=hg;obtain⟨d,k,h2⟩:=hh;rw[h1] at h2;cases h2;exact hst rfl
theorem a4g {w w':World} {g ty:Nat} (h:tag w g ty) (e:w'.heap[g]?=w.heap[g]?):tag w' g ty:=by
 obtain⟨c,f,x⟩:=h;exact⟨c,f,e.trans x⟩
theorem a0d {w:World} {c j g ty:Nat} (u:Value) (h:tag w g ty):tag (w.setCell ⟨c,j,none⟩ u) g ty:=by
 obtain⟨cur,fz,e⟩:=h;by_cases hc:g=c
 .subst hc;rw[setCell_eq_setRow w g j cur ty fz u e];exact⟨_,_,setRow_heap w g cur _ ty fz e⟩
 exact⟨cur,fz,by rw[heap_setCell_other w _ g u hc];exact e⟩
def ob (i r:Nat) (w:World):Option Nat:=(w.cell? ⟨r,i,none⟩).bind Value.ownBlock
structure Sp (i r:Nat) (w w':World):Prop where
  os:w'.os=w.os
  tape:w'.tape=w.tape
  output:w'.output=w.output
  size:w.heap.size<=w'.heap.size
  rl:r<w.heap.size
  block:∀ g,g<w.heap.size->g≠r->ob i r w≠some g->w'.heap[g]?=w.heap[g]?
  nb:∀ g,ob i r w'=some g->ob i r w=some g\/w.heap.size<=g
theorem Sp.refl {i r:Nat} {w:World} (h:r<w.heap.size):Sp i r w w:=⟨rfl,rfl,rfl,Nat.le_refl _,h,fun _ _ _ _=>rfl,fun _ h=>.inl h⟩
theorem Sp.trans {i r:Nat} {a b c:World} (h:Sp i r a b) (k:Sp i r b c):Sp i r a c:=
 ⟨k.os.trans h.os,k.tape.trans h.tape,k.output.trans h.output,Nat.le_trans h.size k.size,h.rl,fun g hg hr ho=>(k.block g (Nat.lt_of_lt_of_le hg h.size) hr (fun e=>by
 rcases h.nb g e with q | q
 .exact ho q
 .omega)).trans (h.block g hg hr ho),fun g hg=>by
 rcases k.nb g hg with q | q
 .exact h.nb g q
 exact .inr (Nat.le_trans h.size q)⟩
theorem a3w {i r:Nat} {w w':World} (h:w'.heap[r]?=w.heap[r]?):ob i r w'=ob i r w:=by
 unfold ob;rw[World.cell?_of_block (a:=⟨r,i,none⟩) h]
theorem Sp.below {i r:Nat} {w w' w2:World} (h:Sp i r w w') (hb:Below w'.heap.size w' w2):Sp i r w w2:=
  have hr:=Nat.lt_of_lt_of_le h.rl h.size
  h.trans ⟨hb.os,hb.tape,hb.output,hb.size,hr,fun g hg _ _=>hb.block g hg,fun g hg=>.inl (by rw[<- a3w (hb.block r hr)];exact hg)⟩
theorem Sp.alloc {i r:Nat} {w w':World} (h:Sp i r w w') (o:Obj):Sp i r w (w'.alloc o):=h.below (below_alloc _ _)
theorem Sp.drew {i r:Nat} {w w':World} (h:Sp i r w w'):Sp i r w w'.drew:=h.below (Below.refl _ _).drew
theorem Sp.set {i r:Nat} {w w':World} (h:Sp i r w w') {c j:Nat} (u:Value) (hc:w.heap.size<=c):Sp i r w (w'.setCell ⟨c,j,none⟩ u):=by
 have b:=(Below.refl 0 w').setCell (p:=⟨c,j,none⟩) (Nat.zero_le _) u;have hrl:=h.rl;have he:(w'.setCell ⟨c,j,none⟩ u).heap[r]?=w'.heap[r]?:=heap_setCell_other w' _ r u (fun e=>by have e2:r=c:=e;omega);exact⟨b.os.trans h.os,b.tape.trans h.tape,b.output.trans h.output,Nat.le_trans h.size b.size,h.rl,fun g hg hr ho=>(heap_setCell_other w' _ g u (fun e=>by have e2:g=c:=e;omega)).trans (h.block g hg hr ho),fun g hg=>h.nb g (by rw[<- a3w he];exact hg)⟩
theorem Sp.setR {i r:Nat} {w w':World} (h:Sp i r w w') {j:Nat} (u:Value) (hj:j≠i):Sp i r w (w'.setCell ⟨r,j,none⟩ u):=by
 have b:=(Below.refl 0 w').setCell (p:=⟨r,j,none⟩) (Nat.zero_le _) u
 have he:ob i r (w'.setCell ⟨r,j,none⟩ u)=ob i r w':=by
  unfold ob;rw[World.cell?_setCell_other w' ⟨r,j,none⟩ ⟨r,i,none⟩ u (fun e=>by cases e;exact hj rfl)]
 exact⟨b.os.trans h.os,b.tape.trans h.tape,b.output.trans h.output,Nat.le_trans h.size b.size,h.rl,fun g hg hr ho=>(heap_setCell_other w' _ g u hr).trans (h.block g hg hr ho),fun g hg=>h.nb g (by rw[<- he];exact hg)⟩
def NB (i r:Nat) (w:World) (g:Nat):Prop:=g<w.heap.size/\g≠r/\ob i r w≠some g
theorem NB.heap {i r:Nat} {w w':World} {g:Nat} (h:NB i r w g) (s:Sp i r w w'):w'.heap[g]?=w.heap[g]?:=s.block g h.1 h.2.1 h.2.2
theorem NB.sp {i r:Nat} {w w':World} {g:Nat} (h:NB i r w g) (s:Sp i r w w'):NB i r w' g:=⟨Nat.lt_of_lt_of_le h.1 s.size,h.2.1,fun e=>by
 rcases s.nb g e with q | q
 .exact h.2.2 q
 have:=h.1;omega⟩
theorem a0L {w w':World} {b e k n:Nat} {v:Value} {xs:List Value} (h:w.ownsRow b e k v n xs) (hS:∀ g,v.ownBlock=some g->w'.heap[g]?=w.heap[g]?):w'.ownsRow b e k v n xs:=by
 obtain⟨h1,h2⟩:=h;refine⟨h1,?_⟩;rcases h2 with h2 | ⟨g,cap,cur,rfl,a0,a1,a2⟩
 .exact .inl h2
 exact .inr ⟨g,cap,cur,rfl,a0,by rw[hS g rfl];exact a1,a2⟩
theorem a0n {w:World} {b e k n g:Nat} {v:Value} {xs:List Value} (h:w.ownsRow b e k v n xs) (hg:v.ownBlock=some g):tag w g e:=by
 obtain⟨_,h2⟩:=h;rcases h2 with⟨rfl,_⟩ | ⟨q,cap,cur,rfl,_,hq,_⟩
 .simp[Value.ownBlock] at hg
 simp[Value.ownBlock] at hg;subst hg;exact⟨_,_,hq⟩
def CT (B:Nat) (w:World) (cs:List Value) (t:Tk):Prop:=cs=[.int .i64 t.1,.string t.2.1,.int .i64 t.2.2]
def TL {α:Type} (ty k:Nat) (C:Nat->World->List Value->α->Prop) (w:World) (v:Value) (xs:List α):Prop:=RS k C 0 w v xs/\∀ g o n c,v=.slice (some ⟨g,o,none⟩) n c->0<xs.length->tag w g ty
theorem TL.keep {α:Type} {ty k:Nat} {C:Nat->World->List Value->α->Prop} {w w':World} {v:Value} {xs:List α} (h:TL ty k C w v xs) (hs:w.heap.size<=w'.heap.size) (hk:∀ g,tag w g ty->w'.heap[g]?=w.heap[g]?) (hC:∀ {cs x},C 0 w cs x->C 0 w' cs x):TL ty k C w' v xs:=by
 obtain⟨⟨a,c,he,hh⟩,ht⟩:=h;refine⟨⟨a,c,he,fun hp=>?_⟩,fun g o n c' hv hp=>a4g (ht g o n c' hv hp) (hk g (ht g o n c' hv hp))⟩;obtain⟨g,o,e2,h1,h2,h3⟩:=hh hp;have hb:=hk g (ht g o _ _ (by rw[he,e2]) hp);refine⟨g,o,e2,h1,Nat.lt_of_lt_of_le h2 hs,fun i a0=>?_⟩;obtain⟨cs,x,y⟩:=h3 i a0;exact⟨cs,hC x,fun j hj=>by rw[<- y j hj];exact World.cell?_of_block hb⟩
theorem TL.nil {α:Type} (ty k:Nat) (C:Nat->World->List Value->α->Prop) (w:World):TL ty k C w (.slice none 0 0) ([]:List α):=⟨⟨none,0,rfl,fun h=>absurd h (by simp)⟩,fun g o n c h=>by cases h⟩
def KS (w:World) (v:Value) (ks:List Int):Prop:=TL 3 1 CI w v ks
theorem KS.keep {w w':World} {v:Value} {ks:List Int} (h:KS w v ks) (hs:w.heap.size<=w'.heap.size) (hk:∀ g,tag w g 3->w'.heap[g]?=w.heap[g]?):KS w' v ks:=TL.keep h hs hk (fun h=>h)
def ndC (t:Nd) (kv:Value):List Value:=[.int .i64 t.op,.string t.name,.string t.qual,.int .i64 t.n,.int .i64 t.m,.int .i64 t.vk,.int .i64 t.vn,.string t.vs,kv,.int .i64 t.pos]
def Out (D:Nat->Prop) (v:Value):Prop:=∀ g,v.ownBlock=some g->¬ D g
def NR (w:World) (D:Nat->Prop):List Value->List Nd->List Value->Prop
 | xs,[],[]=>xs=[]
 | xs,t::r,kv::ks=>∃ ys,xs=ndC t kv++ys/\KS w kv t.kids/\(0<t.kids.length->Out D kv)/\NR w D ys r ks
 | _,_,_=>False
theorem NR.keep {w w':World} {D:Nat->Prop} (hs:w.heap.size<=w'.heap.size) (hk:∀ g,tag w g 3->¬ D g->w'.heap[g]?=w.heap[g]?):∀ {xs:List Value} {ts:List Nd} {ks:List Value},NR w D xs ts ks->NR w' D xs ts ks
 | _,[],[],h=>h
 | _,t::r,kv::ks,⟨ys,a,b,d,c⟩=>⟨ys,a,by
  rcases Nat.eq_zero_or_pos t.kids.length with h0 | h0
  .obtain⟨⟨x,y,z,_⟩,_⟩:=b;exact⟨⟨x,y,z,fun h=>by omega⟩,fun _ _ _ _ _ h=>by omega⟩
  obtain⟨⟨x,y,e,hh⟩,ht⟩:=b;obtain⟨g,o,e2,h1,h2,h3⟩:=hh h0;have htg:=ht g o _ _ (by rw[e,e2]) h0;have hb:=hk g htg (d h0 g (by rw[e,e2];rfl));refine⟨⟨x,y,e,fun _=>⟨g,o,e2,h1,Nat.lt_of_lt_of_le h2 hs,fun i a0=>?_⟩⟩,fun g' o' n c hv _=>?_⟩
  .obtain⟨cs,x,y⟩:=h3 i a0;exact⟨cs,x,fun j hj=>by rw[<- y j hj];exact World.cell?_of_block hb⟩
  rw[e,e2] at hv;cases hv;exact a4g htg hb,d,NR.keep hs hk c⟩
 | _,[],_::_,h=>h.elim
 | _,_::_,[],h=>h.elim
theorem NR.snoc {w:World} {D:Nat->Prop} {t:Nd} {kv:Value} (hk:KS w kv t.kids) (hd:0<t.kids.length->Out D kv):∀ {xs:List Value} {ts:List Nd} {ks:List Value},NR w D xs ts ks->NR w D (xs++ndC t kv) (ts++[t]) (ks++[kv])
 | xs,[],[],h=>⟨[],by rw[show xs=[] from h];simp,hk,hd,rfl⟩
 | xs,u::r,ku::ks,⟨ys,a,b,d,c⟩=>⟨ys++ndC t kv,by rw[a,List.append_assoc],b,d,NR.snoc hk hd c⟩
 | _,[],_::_,h=>h.elim
 | _,_::_,[],h=>h.elim
theorem NR.sub2 {w w':World} {D D':Nat->Prop} (hd:∀ g,g<w.heap.size->D' g->D g):∀ {xs:List Value} {ts:List Nd} {ks:List Value},NR w' D xs ts ks->NR w D xs ts ks->NR w' D' xs ts ks
 | _,[],[],h,_=>h
 | _,t::r,kv::ks,⟨ys,a,b,d,c⟩,⟨zs,a2,b2,d2,c2⟩=>⟨ys,a,b,fun h g hg h2=>by
  obtain⟨⟨x,y,e,hh⟩,ht⟩:=b2;obtain⟨g',o,e2,h1,h3,_⟩:=hh h;rw[e,e2] at hg
  have a0:g'=g:=by simpa[Value.ownBlock] using hg
  subst a0
  exact d h g' (by rw[e,e2];rfl) (hd g' h3 h2),NR.sub2 hd c (by
    have:ys=zs:=List.append_cancel_left (a.symm.trans a2)
    rw[this];exact c2)⟩
 | _,[],_::_,h,_=>h.elim
 | _,_::_,[],h,_=>h.elim
def pot (V:Env) (p:Nat) (x:Option (List Nd)) (m:Nat):Nat:=m+(if x.isSome then 1000*(V.ts.length-p) else 0)
def rOf {α:Type} (a:α) (q:Nat):Option (List Nd)->R α
 | some o=>.ok a q o
 | none=>.bad q
structure Res {α:Type} (V:Env) (d c:Nat) (F:List Nd->R α) (p:Nat) (x:Option (List Nd)) (m q:Nat) (y:Option (List Nd)) (m':Nat) (a:α):Prop where
  no:x=none->y=none/\q=p
  yes:∀ o,x=some o->F o=rOf a q y
  up:p<=q
  pt:pot V q y m'+(if y.isSome then c else 0)<=pot V p x m+d
theorem Res.le {α:Type} {V:Env} {d c:Nat} {F:List Nd->R α} {p:Nat} {x:Option (List Nd)} {m q:Nat} {y:Option (List Nd)} {m':Nat} {a:α} (h:Res V d c F p x m q y m' a):pot V q y m'<=pot V p x m+d:=by have:=h.pt;omega
theorem Res.ok {α:Type} {V:Env} {d c:Nat} {F:List Nd->R α} {p:Nat} {x:Option (List Nd)} {m q:Nat} {y:Option (List Nd)} {m':Nat} {a:α} (h:Res V d c F p x m q y m' a) {o:List Nd} (e:y=some o):pot V q y m'+c<=pot V p x m+d/\∃ o0,x=some o0:=by
 have:=h.pt;rw[e] at this ⊢;simp only[Option.isSome_some,if_true] at this
 cases x with
 | some o0=>exact⟨this,o0,rfl⟩
 | none=>
 have:=(h.no rfl).1;rw[e] at this;cases this
theorem Res.weak {α:Type} {V:Env} {d c d' c':Nat} {F:List Nd->R α} {p:Nat} {x:Option (List Nd)} {m q:Nat} {y:Option (List Nd)} {m':Nat} {a:α} (h:Res V d c F p x m q y m' a) (h1:d<=d') (h2:d+c'<=c+d'):Res V d' c' F p x m q y m' a:=
 ⟨h.no,h.yes,h.up,by
 have:=h.pt;by_cases hy:y.isSome=true
 .simp only[hy,if_true] at this ⊢;omega
 simp only[hy] at this ⊢;simp at this ⊢;omega⟩
theorem Res.congr {α:Type} {V:Env} {d c:Nat} {F G:List Nd->R α} {p:Nat} {x:Option (List Nd)} {m q:Nat} {y:Option (List Nd)} {m':Nat} {a:α} (h:Res V d c F p x m q y m' a) (e:∀ o,x=some o->G o=F o):Res V d c G p x m q y m' a:=
  ⟨h.no,fun o ho=>(e o ho).trans (h.yes o ho),h.up,h.pt⟩
theorem Res.bind {α β:Type} {V:Env} {d c d2 c2:Nat} {F:List Nd->R α} {K:α->Nat->List Nd->R β} {p:Nat} {x:Option (List Nd)} {m q:Nat} {y:Option (List Nd)} {m':Nat} {a:α} {t:Nat} {z:Option (List Nd)} {m2:Nat} {b:β} (h:Res V d c F p x m q y m' a) (k:Res V d2 c2 (K a q) q y m' t z m2 b):Res V (d+d2) (c+c2) (fun o=>(F o).bind K) p x m t z m2 b:=by
 refine⟨fun e=>?_,fun o e=>?_,Nat.le_trans h.up k.up,?_⟩
 .obtain⟨e1,e2⟩:=h.no e;obtain⟨e3,e4⟩:=k.no e1;exact⟨e3,e4.trans e2⟩
 .show(F o).bind K=_
  rw[h.yes o e]
  cases y with
  | some o1=>exact k.yes o1 rfl
  | none=>
  obtain⟨e3,e4⟩:=k.no rfl;subst e3 e4;rfl
 have h1:=h.pt;have h2:=k.pt
 cases y with
 | none=>
  obtain⟨e3,e4⟩:=k.no rfl;subst e3 e4;simp at h1 h2 ⊢;omega
 | some o1=>
 by_cases hz:z.isSome=true
 .simp only[hz,if_true,Option.isSome_some] at h1 h2 ⊢;omega
 simp only[hz,if_true,Option.isSome_some] at h1 h2 ⊢;simp at h1 h2 ⊢;omega
theorem Res.pure {α:Type} (V:Env) (F:List Nd->R α) (p:Nat) (x:Option (List Nd)) (m:Nat) (a:α) (e:∀ o,x=some o->F o=.ok a p o):Res V 0 0 F p x m p x m a:=
  ⟨fun h=>⟨h,rfl⟩,fun o h=>by rw[e o h,h];rfl,Nat.le_refl _,by simp⟩
theorem Res.fail {α:Type} (V:Env) (c:Nat) (F:List Nd->R α) (p:Nat) (x:Option (List Nd)) (m:Nat) (a:α) (e:∀ o,x=some o->F o=.bad p):Res V 0 c F p x m p none m a:=
  ⟨fun h=>⟨rfl,rfl⟩,fun o h=>by rw[e o h];rfl,Nat.le_refl _,by simp[pot]⟩
def Tq (V:Env) (p:Nat) (x:Option (List Nd)) (s:ByteArray) (b:Bool):Prop:=b=(x.isSome&&sees V p s)
theorem a0c {V:Env} {p:Nat} {s:ByteArray} (h:sees V p s=true):p<V.ts.length:=by
 rcases Nat.lt_or_ge p V.ts.length with g | g
 .exact g
 simp[sees,Env.kd,Env.tk,List.getElem?_eq_none g] at h
theorem Tq.yes {V:Env} {p:Nat} {x:Option (List Nd)} {s:ByteArray} (h:Tq V p x s true):∃ o,x=some o/\sees V p s=true/\p<V.ts.length:=by
 unfold Tq at h
 cases x with
 | none=>simp at h
 | some o=>
 simp at h;exact⟨o,rfl,h,a0c h⟩
theorem Tq.no {V:Env} {p:Nat} {x:Option (List Nd)} {s:ByteArray} (h:Tq V p x s false) {o:List Nd} (e:x=some o):sees V p s=false:=by
 unfold Tq at h;rw[e] at h;simpa using h.symm
theorem a0j {V:Env} {p:Nat} {x:Option (List Nd)} {m:Nat} {o:List Nd} (e:x=some o) (h:p<V.ts.length):pot V (p+1) x m+1000=pot V p x m:=by
 unfold pot;rw[e];simp;omega
theorem Res.tkT {α:Type} {V:Env} {d c:Nat} {s:ByteArray} {F A B:List Nd->R α} {p:Nat} {x:Option (List Nd)} {m q:Nat} {y:Option (List Nd)} {m':Nat} {a:α} (h:Tq V p x s true) (k:Res V d c A (p+1) x m q y m' a) (e:∀ o,F o=if sees V p s then A o else B o) (hd:d<=1000:=by omega):Res V 0 (c+1000-d) F p x m q y m' a:=by
 obtain⟨o,e1,e2,e3⟩:=h.yes;have hp:=a0j (m:=m) e1 e3;have ku:=k.up;refine⟨fun z=>by(rw[e1] at z;cases z),fun o2 h2=>?_,by omega,?_⟩
 .rw[e o2,if_pos e2];exact k.yes o2 h2
 have:=k.pt;by_cases hy:y.isSome=true
 .simp only[hy,if_true] at this ⊢;omega
 simp only[hy] at this ⊢;simp at this ⊢;omega
theorem Res.tkF {α:Type} {V:Env} {d c:Nat} {s:ByteArray} {F A B:List Nd->R α} {p:Nat} {x:Option (List Nd)} {m q:Nat} {y:Option (List Nd)} {m':Nat} {a:α} (h:Tq V p x s false) (k:Res V d c B p x m q y m' a) (e:∀ o,F o=if sees V p s then A o else B o):Res V d c F p x m q y m' a:=
  k.congr (fun o ho=>by rw[e o,if_neg (by rw[h.no ho];simp)])
structure SM (V:Env) (src:ByteArray) (r B:Nat) (D:Nat->Prop) (w:World) (p:Nat) (x:Option (List Nd)) (m:Nat):Prop where
  le:p<=V.ts.length
  hb:B<=w.heap.size
  dl:∀ g,D g->g<w.heap.size
  ex:∃ tv ov xs,w.heap[r]?=some (.cells #[.string src,tv,.int .i64 p,ov,.bool x.isNone] 35 (0,0))/\TL 50 3 CT w tv V.ts/\w.ownsRow B 42 10 ov m xs/\∀ o,x=some o->o.length=m/\∃ ks,NR w D xs o ks
structure VO (V:Env) (src:ByteArray):Prop where
  n:V.ts.length<=2000
  en:V.en=src.size
  sz:src.size<=8000
theorem cell_of {w:World} {g ty j:Nat} {cur:Array Value} (h:w.heap[g]?=some (.cells cur ty (0,0))):w.cell? ⟨g,j,none⟩=cur[j]?/\w.frozen? ⟨g,j,none⟩=false:=by simp[World.cell?,World.frozen?,h]
section
variable {V : Env} {src : ByteArray} {r B : Nat} {D : Nat -> Prop} {w : World} {p : Nat} {x : Option (List Nd)} {m : Nat}
theorem SM.rt (h:SM V src r B D w p x m):tag w r 35:=by
 obtain⟨tv,ov,xs,h1,_⟩:=h.ex;exact⟨_,_,h1⟩
theorem SM.rl (h:SM V src r B D w p x m):r<w.heap.size:=a0x h.rt
theorem SM.obt (h:SM V src r B D w p x m) {g:Nat} (hg:ob 3 r w=some g):tag w g 42:=by
 obtain⟨tv,ov,xs,h1,_,h2,_⟩:=h.ex;unfold ob at hg;rw[(cell_of h1 (j:=3)).1] at hg;exact a0n h2 (by simpa using hg)
theorem SM.nb (h:SM V src r B D w p x m) {g ty:Nat} (ht:tag w g ty) (h1:ty≠35) (h2:ty≠42):NB 3 r w g:=
  ⟨a0x ht,a0t ht h.rt h1,fun e=>a0t ht (h.obt e) h2 rfl⟩
theorem SM.keepD (h:SM V src r B D w p x m) {w':World} {D':Nat->Prop} (hl:∀ g,D' g->g<w'.heap.size) (hd:∀ g,g<w.heap.size->D' g->D g) (hs:w.heap.size<=w'.heap.size) (hr:w'.heap[r]?=w.heap[r]?) (ho:∀ g,ob 3 r w=some g->w'.heap[g]?=w.heap[g]?) (ht:∀ g,tag w g 50->w'.heap[g]?=w.heap[g]?) (hk:∀ g,tag w g 3->¬ D g->w'.heap[g]?=w.heap[g]?):SM V src r B D' w' p x m:=by
 obtain⟨tv,ov,xs,h1,h2,h3,h4⟩:=h.ex;refine⟨h.le,Nat.le_trans h.hb hs,hl,tv,ov,xs,hr.trans h1,TL.keep h2 hs ht (fun h=>h),a0L h3 (fun g hg=>ho g ?_),fun o e=>?_⟩
 .unfold ob;rw[(cell_of h1 (j:=3)).1];simpa using hg
 obtain⟨a,ks,b⟩:=h4 o e;exact⟨a,ks,(b.keep hs hk).sub2 hd b⟩
theorem SM.keep (h:SM V src r B D w p x m) {w':World} (hs:w.heap.size<=w'.heap.size) (hr:w'.heap[r]?=w.heap[r]?) (ho:∀ g,ob 3 r w=some g->w'.heap[g]?=w.heap[g]?) (ht:∀ g,tag w g 50->w'.heap[g]?=w.heap[g]?) (hk:∀ g,tag w g 3->¬ D g->w'.heap[g]?=w.heap[g]?):SM V src r B D w' p x m:=
  h.keepD (fun g hg=>Nat.lt_of_lt_of_le (h.dl g hg) hs) (fun _ _ h=>h) hs hr ho ht hk
theorem SM.belowD (h:SM V src r B D w p x m) {w':World} {D':Nat->Prop} (hl:∀ g,D' g->g<w'.heap.size) (hd:∀ g,g<w.heap.size->D' g->D g) (hb:Below w.heap.size w w'):SM V src r B D' w' p x m:=
  h.keepD hl hd hb.size (hb.block r h.rl) (fun g hg=>hb.block g (a0x (h.obt hg))) (fun g hg=>hb.block g (a0x hg)) (fun g hg _=>hb.block g (a0x hg))
theorem SM.below (h:SM V src r B D w p x m) {w':World} (hb:Below w.heap.size w w'):SM V src r B D w' p x m:=
  h.keep hb.size (hb.block r h.rl) (fun g hg=>hb.block g (a0x (h.obt hg))) (fun g hg=>hb.block g (a0x hg)) (fun g hg _=>hb.block g (a0x hg))
theorem SM.alloc (h:SM V src r B D w p x m) (o:Obj):SM V src r B D (w.alloc o) p x m:=h.below (below_alloc _ _)
theorem SM.setN (h:SM V src r B D w p x m) {c j:Nat} (u:Value) (hn:NB 3 r w c) (ht:tag w c 42):SM V src r B D (w.setCell ⟨c,j,none⟩ u) p x m:=
  have k:∀ g,g≠c->(w.setCell ⟨c,j,none⟩ u).heap[g]?=w.heap[g]?:=fun g hg=>heap_setCell_other w _ g u hg
  h.keep (by simp) (k r (fun e=>hn.2.1 e.symm)) (fun g hg=>k g (fun e=>hn.2.2 (e ▸ hg))) (fun g hg=>k g (a0t hg ht (by decide))) (fun g hg _=>k g (a0t hg ht (by decide)))
theorem SM.growD (h:SM V src r B D w p x m) {w':World} {D':Nat->Prop} {row:Option Nat} (hl:∀ g,D' g->g<w'.heap.size) (hd':∀ g,g<w.heap.size->D' g->D g) (hg:w.grownBy w' row) (hd:∀ g,row=some g->D g/\tag w g 3):SM V src r B D' w' p x m:=by
 have k:∀ g,g<w.heap.size->(∀ c,row=some c->g≠c)->w'.heap[g]?=w.heap[g]?:=fun g h1 h2=>hg.block g h1 (fun e=>h2 g e.symm rfl);exact h.keepD hl hd' hg.size (k r h.rl (fun c hc=>a0t h.rt (hd c hc).2 (by decide))) (fun g e=>k g (a0x (h.obt e)) (fun c hc=>a0t (h.obt e) (hd c hc).2 (by decide))) (fun g e=>k g (a0x e) (fun c hc=>a0t e (hd c hc).2 (by decide))) (fun g e e2=>k g (a0x e) (fun c hc e3=>e2 (e3 ▸ (hd c hc).1)))
theorem SM.sub (h:SM V src r B D w p x m) {D':Nat->Prop} (hd:∀ g,D' g->D g):SM V src r B D' w p x m:=h.belowD (fun g hg=>h.dl g (hd g hg)) (fun g _ hg=>hd g hg) (Below.refl _ _)
theorem SM.setR (h:SM V src r B D w p x m) {tv ov:Value} {xs:List Value} {w':World} {q:Nat} {y:Option (List Nd)} (hq:q<=V.ts.length) (hs:w.heap.size<=w'.heap.size) (hr:w'.heap[r]?=some (.cells #[.string src,tv,.int .i64 q,ov,.bool y.isNone] 35 (0,0))) (hk:∀ g,g≠r->w'.heap[g]?=w.heap[g]?) (h2:TL 50 3 CT w tv V.ts) (h3:w.ownsRow B 42 10 ov m xs) (h4:∀ o,y=some o->o.length=m/\∃ ks,NR w D xs o ks):SM V src r B D w' q y m:=
 ⟨hq,Nat.le_trans h.hb hs,fun g hg=>Nat.lt_of_lt_of_le (h.dl g hg) hs,tv,ov,xs,hr,TL.keep h2 hs (fun g hg=>hk g (a0t hg h.rt (by decide))) (fun h=>h),a0L h3 (fun g hg=>hk g (a0t (a0n h3 hg) h.rt (by decide))),fun o e=>by
 obtain⟨a,ks,b⟩:=h4 o e;exact⟨a,ks,b.keep hs (fun g hg _=>hk g (a0t hg h.rt (by decide)))⟩⟩
theorem SM.at (h:SM V src r B D w p x m) {q:Nat} (hq:q<=V.ts.length) {z:Int} (hz:z=(q:Int)):SM V src r B D (w.setCell ⟨r,2,none⟩ (.int .i64 z)) q x m:=by
 subst hz;obtain⟨tv,ov,xs,h1,h2,h3,h4⟩:=h.ex;exact h.setR hq (by simp) (by rw[heap_setCell_same w r 2 _ _ _ h1];rfl) (fun g hg=>heap_setCell_other w _ g _ hg) h2 h3 h4
theorem SM.bad (h:SM V src r B D w p x m):SM V src r B D (w.setCell ⟨r,4,none⟩ (.bool true)) p none m:=by
 obtain⟨tv,ov,xs,h1,h2,h3,h4⟩:=h.ex;exact h.setR h.le (by simp) (by rw[heap_setCell_same w r 4 _ _ _ h1];rfl) (fun g hg=>heap_setCell_other w _ g _ hg) h2 h3 (fun o e=>by cases e)
end
section
variable {V : Env} {src : ByteArray} {r B : Nat} {D : Nat -> Prop} {w : World} {p : Nat} {x : Option (List Nd)} {m : Nat}
theorem SM.cells (h:SM V src r B D w p x m):∃ ta tc oa oc,w.cell? ⟨r,0,none⟩=some (.string src)/\w.cell? ⟨r,1,none⟩=some (.slice ta V.ts.length tc)/\w.cell? ⟨r,2,none⟩=some (.int .i64 p)/\w.cell? ⟨r,3,none⟩=some (.slice oa m oc)/\w.cell? ⟨r,4,none⟩=some (.bool x.isNone)/\w.frozen? ⟨r,2,none⟩=false/\w.frozen? ⟨r,3,none⟩=false/\w.frozen? ⟨r,4,none⟩=false /\
 (0<V.ts.length->∃ g o,ta=some ⟨g,o,none⟩/\∀ i,i<V.ts.length->w.cell? ⟨g,o+i*3,none⟩=some (.int .i64 (V.kd i))/\w.cell? ⟨g,o+i*3+1,none⟩=some (.string (V.tx i))/\w.cell? ⟨g,o+i*3+2,none⟩=some (.int .i64 (V.pos i))):=by
 obtain⟨tv,ov,xs,h1,⟨⟨ta,tc,rfl,h2⟩,_⟩,⟨h3,h4⟩,_⟩:=h.ex
 have hov:∃ oa oc,ov=.slice oa m oc:=by
  rcases h4 with⟨rfl,rfl⟩ | ⟨g,cap,cur,rfl,_⟩
  .exact⟨_,_,rfl⟩
  exact⟨_,_,rfl⟩
 obtain⟨oa,oc,rfl⟩:=hov;refine⟨ta,tc,oa,oc,(cell_of h1).1,(cell_of h1).1,(cell_of h1).1,(cell_of h1).1,(cell_of h1).1,(cell_of h1).2,(cell_of h1).2,(cell_of h1).2,fun hp=>?_⟩;obtain⟨g,o,e,_,_,h5⟩:=h2 hp;refine⟨g,o,e,fun i hi=>?_⟩;obtain⟨cs,hc,h6⟩:=h5 i hi;unfold CT at hc;subst hc
 have ht:V.tk i=V.ts[i]:=by simp[Env.tk,List.getElem?_eq_getElem hi]
 have a:=h6 0 (by omega);have b:=h6 1 (by omega);have c:=h6 2 (by omega);simp only[Env.kd,Env.tx,Env.pos,ht];exact⟨a,b,c⟩
end
theorem Env.kd_out {V:Env} {p:Nat} (h:V.ts.length<=p):V.kd p=0:=by simp[Env.kd,Env.tk,List.getElem?_eq_none h]
theorem Env.pos_out {V:Env} {p:Nat} (h:V.ts.length<=p):V.pos p=V.en:=by simp[Env.pos,Env.tk,List.getElem?_eq_none h]
theorem a2X {V:Env} {src:ByteArray} {r B:Nat} {D:Nat->Prop} {w:World} {p:Nat} {x:Option (List Nd)} {m:Nat} (hV:VO V src) (h:SM V src r B D w p x m) (k:Nat) (hk:k<=10) (s:ByteArray) :
 Calls prog 57 #[.pointer (some ⟨r,0,none⟩),.int .i64 (k:Int),.string s] w fun e w'=>e=.returned (.bool (sees V (p+k) s))/\w'=w:=by
 obtain⟨ta,tc,oa,oc,c0,c1,c2,c3,c4,f2,f3,f4,ht⟩:=h.cells;have hn:=hV.n;have hle:=h.le
 have a1:(p:Int)<=2000:=by omega
 have a2:(k:Int)<=10:=by omega
 by_cases hlt:p+k<V.ts.length
 .obtain⟨g,o,rfl,htk⟩:=ht (by omega);obtain⟨t0,t1,t2⟩:=htk (p+k) hlt
  have a3:(p:Int)+(k:Int)<V.ts.length:=by omega
  have a0:decide ((V.ts.length:Int)<=(p:Int)+(k:Int))=false:=by simp;omega
  have hs:sees V (p+k) s=((V.kd (p+k)==1 || V.kd (p+k)==6)&&(V.tx (p+k)).toList==s.toList):=rfl;rw[hs];clear hs htk ht;generalize V.kd (p+k)=kd at *;generalize V.tx (p+k)=tx at *;go_enter func57,ntmps57;go_wp2
  all_goals(go_ret;go_light;refine⟨b9A ?_,rfl⟩;simp_all)
 have hs:sees V (p+k) s=false:=by simp[sees,Env.kd_out (Nat.le_of_not_lt hlt)]
 rw[hs]
 have a0:decide ((V.ts.length:Int)<=(p:Int)+(k:Int))=true:=by simp;omega
 go_enter func57,ntmps57;go_wp2;go_ret;exact⟨rfl,rfl⟩
section
variable {P : Program} {ops : Array Oper} {Q : Exit -> Act -> World -> Prop} {md : Region.Mode} {S : World -> Prop} {late : List Nat}
def a3S (late:List Nat) (listed:Array Bool):Prop:=∀ l∈late,listed.getD l true=false
def wpTill (P:Program) (md:Region.Mode) (ops:Array Oper) (Q:Exit->Act->World->Prop) (S:World->Prop) (late:List Nat):Nat->Array Bool->Act->World->Prop
 | 0,listed,a,w=>Region.ready md ops listed=[]/\Q .normal a w
 | f+1,listed,a,w=>(Region.ready md ops listed=[]->Q .normal a w)/\∀ i∈Region.ready md ops listed,wpOp P ops Q i (fun a' w'=>(a3S late (listed.setIfInBounds i true)->S w')/\wpTill P md ops Q S late f (listed.setIfInBounds i true) a' w') a w
theorem wpTill.any:∀ (f:Nat) (listed:Array Bool) (a:Act) (w:World),wpTill P md ops Q S late f listed a w->wpAny P md ops Q f listed a w
 | 0,_,_,_,h=>h
 | f+1,_,_,_,h=>⟨h.1,fun i hi=>wpOp_mono (fun a' w' z=>wpTill.any f _ a' w' z.2) (h.2 i hi)⟩
theorem a1P {listed:Array Bool} {i:Nat} (hi:¬ i∈late):a3S late (listed.setIfInBounds i true)↔a3S late listed:=by
 constructor
 .intro h l hl;have:=h l hl;rw[getD_set_ne true (show i≠l from fun z=>hi (by rw[z];exact hl))] at this;exact this
 intro h l hl;rw[getD_set_ne true (show i≠l from fun z=>hi (by rw[z];exact hl))];exact h l hl
theorem b0J {listed:Array Bool} {i:Nat} (h:listed.getD i true=false):listed.getD i false=false:=by
 rcases Nat.lt_or_ge i listed.size with z | z
 .simp[z] at h ⊢;exact h
 simp[Array.getElem?_eq_none z] at h
theorem a5e {listed:Array Bool} {i j:Nat} {oj:Oper} (hi:i∈Region.ready md ops listed) (hj:j∈Region.ready md ops listed) (hoj:ops[j]?=some oj):∀ e∈oj.after,Region.binds md e=true->e.on≠i:=fun e he hb z=>by
 obtain⟨_,o,ho,hall⟩:=mem_ready.1 hj;rw[hoj] at ho;injection ho with ho;subst ho;have h1:=hall e he hb;rw[z,b0J (mem_ready.1 hi).1] at h1;cases h1
theorem a6C {listed:Array Bool} {i j:Nat} {oi:Oper} (hjun:listed.getD j true=false) (h:∀ k ok,ops[k]?=some ok->k≠i->listed.getD k true=false->(∀ e∈ok.after,Region.binds md e=true->e.on≠i)->oi.apart ops ok=true):∀ k ok,ops[k]?=some ok->k≠i->(listed.setIfInBounds j true).getD k true=false->(∀ e∈ok.after,Region.binds md e=true->e.on≠i)->oi.apart ops ok=true:=fun k ok hk hki hun hno=>by
 refine h k ok hk hki ?_ hno;by_cases e:j=k
 .rw[<- e];exact hjun
 rw[getD_set_ne true e] at hun;exact hun
theorem wpTill.load {i:Nat} {oi:Oper} {v:Value} (hi:ops[i]?=some oi) (hsel:∀ (j:Nat) (o:Oper) cs b,ops[j]?=some o->o.op≠.select cs b) (hQ:∀ c a w,Q (.panic c) (a.put oi.dst v) w->Q (.panic c) a w)
    (hlate:∀ l∈late,∃ ol,ops[l]?=some ol/\∃ e∈ol.after,Region.binds md e=true/\e.on=i) :
    ∀ (f:Nat) (listed:Array Bool) (a:Act) (w:World),
      (∀ k ok,ops[k]?=some ok->k≠i->listed.getD k true=false->(∀ e∈ok.after,Region.binds md e=true->e.on≠i)->oi.apart ops ok=true) ->
      i∈Region.ready md ops listed->a3S late listed->YieldsIf P ops S oi v a->S w ->
 wpTill P md ops Q S late f (listed.setIfInBounds i true) (a.put oi.dst v) w->wpTill P md ops Q S late (f+1) listed a w:=by
 have hnl:∀ listed:Array Bool,i∈Region.ready md ops listed->∀ j∈Region.ready md ops listed,¬ j∈late:=fun listed hr j hj hl=>by
  obtain⟨ol,ho,e,he,hb,hon⟩:=hlate j hl;exact a5e hr hj ho e he hb hon
 intro f
 induction f with
 | zero=>
  intro listed a w _ hr _ hy hS H;refine⟨fun z=>(by rw[z] at hr;cases hr),fun j hj=>?_⟩;by_cases hji:j=i
  .subst hji;exact hy.wpOp hi hS ⟨fun _=>hS,H⟩
  have z:=ready_mono hj hji;rw[H.1] at z;cases z
 | succ f ih=>
 intro listed a w hfree hr hE hy hS H;refine⟨fun z=>(by rw[z] at hr;cases hr),fun j hj=>?_⟩;by_cases hji:j=i
 .subst hji;exact hy.wpOp hi hS ⟨fun _=>hS,H⟩
 obtain⟨hjun,oj,hoj,_⟩:=mem_ready.1 hj;have h1:=H.2 j (ready_mono hj hji);have h2:=wpOp_putIf hoj (hfree j oj hoj hji hjun (a5e hr hj hoj)) (fun cs b=>hsel i oi cs b hi) (fun cs b=>hsel j oj cs b hoj) hQ hy h1;have hjl:=hnl listed hr j hj;have hil:=hnl listed hr i hr;have a1:a3S late (listed.setIfInBounds j true):=(a1P hjl).2 hE;have a0:a3S late ((listed.setIfInBounds i true).setIfInBounds j true):=(a1P hjl).2 ((a1P hil).2 hE);refine wpOp_mono (fun a' w' z=>⟨fun _=>z.2.1 a0,ih (listed.setIfInBounds j true) a' w' (a6C hjun hfree) (ready_mono hr (Ne.symm hji)) a1 z.1 (z.2.1 a0) ?_⟩) h2;rw[Array.setIfInBounds_comm _ _ hji];exact z.2.2
theorem wpTill.free {i:Nat} {oi:Oper} {v:Value} (hi:ops[i]?=some oi) (hsel:∀ (j:Nat) (o:Oper) cs b,ops[j]?=some o->o.op≠.select cs b) (hQ:∀ c a w,Q (.panic c) (a.put oi.dst v) w->Q (.panic c) a w) (hil:¬ i∈late) :
    ∀ (f:Nat) (listed:Array Bool) (a:Act) (w:World),
      (∀ k ok,ops[k]?=some ok->k≠i->listed.getD k true=false->(∀ e∈ok.after,Region.binds md e=true->e.on≠i)->oi.apart ops ok=true) ->
      i∈Region.ready md ops listed->Yields P ops oi v a->(a3S late listed->S w) ->
 wpTill P md ops Q S late f (listed.setIfInBounds i true) (a.put oi.dst v) w->wpTill P md ops Q S late (f+1) listed a w:=by
 intro f
 induction f with
 | zero=>
  intro listed a w _ hr hy hS H;refine⟨fun z=>(by rw[z] at hr;cases hr),fun j hj=>?_⟩;by_cases hji:j=i
  .subst hji;exact hy.wpOp hi ⟨fun z=>hS ((a1P hil).1 z),H⟩
  have z:=ready_mono hj hji;rw[H.1] at z;cases z
 | succ f ih=>
 intro listed a w hfree hr hy hS H;refine⟨fun z=>(by rw[z] at hr;cases hr),fun j hj=>?_⟩;by_cases hji:j=i
 .subst hji;exact hy.wpOp hi ⟨fun z=>hS ((a1P hil).1 z),H⟩
 obtain⟨hjun,oj,hoj,_⟩:=mem_ready.1 hj;have h1:=H.2 j (ready_mono hj hji);have h2:=wpOp_put hoj (hfree j oj hoj hji hjun (a5e hr hj hoj)) (fun cs b=>hsel i oi cs b hi) (fun cs b=>hsel j oj cs b hoj) hQ hy h1;have hcomm:(listed.setIfInBounds i true).setIfInBounds j true=(listed.setIfInBounds j true).setIfInBounds i true:=Array.setIfInBounds_comm _ _ (Ne.symm hji);have hSS:∀ w':World,(a3S late ((listed.setIfInBounds i true).setIfInBounds j true)->S w')->a3S late (listed.setIfInBounds j true)->S w':=fun w' z y=>z (by rw[hcomm];exact(a1P hil).2 y);refine wpOp_mono (fun a' w' z=>⟨hSS w' z.2.1,ih (listed.setIfInBounds j true) a' w' (a6C hjun hfree) (ready_mono hr (Ne.symm hji)) z.1 (hSS w' z.2.1) ?_⟩) h2;rw[<- hcomm];exact z.2.2
end
end Go.Proofs.YtphmpkpcamgjeaaGreatDoor
