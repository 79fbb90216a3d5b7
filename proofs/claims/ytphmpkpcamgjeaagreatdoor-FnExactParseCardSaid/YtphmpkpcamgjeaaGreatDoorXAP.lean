import Derived.Test.YtphmpkpcamgjeaaGreatDoorXAA
import Derived.Test.YtphmpkpcamgjeaaGreatDoorXAO
set_option linter.unusedVariables false
set_option linter.unusedSimpArgs false
set_option maxRecDepth 100000
set_option maxHeartbeats 16000000
namespace Go.Proofs.YtphmpkpcamgjeaaGreatDoor
open Go.ChangeShapes Go.WideShapes Go.ChangeAt Go.RowKit Go.Proofs.Tryz
def a3h (V:Env) (src:ByteArray) (r B:Nat) (D:Nat->Prop) (d:Nat) (F:List Nd->R Int) (w:World) (p:Nat) (x:Option (List Nd)) (m:Nat) (e:Ending) (w':World):Prop:=
  ∃ k q y m',e=.returned (.int .i64 k)/\SM V src r B D w' q y m'/\Sp 3 r w w'/\Res V d (520-d) F p x m q y m' k
def a0w (V:Env) (src:ByteArray) (K d n:Nat) (F:M Int):Prop:=∀ {r B:Nat} {D:Nat->Prop} {w:World} {p:Nat} {x:Option (List Nd)} {m:Nat},SM V src r B D w p x m->(∀ o,x=some o->V.ts.length-p<n)->pot V p x m+d<=4000000->Calls prog K #[.pointer (some ⟨r,0,none⟩)] w fun e w'=>a3h V src r B D d (F p) w p x m e w'
theorem a0r {V:Env} {p:Nat} {x:Option (List Nd)} {m:Nat}:m<=pot V p x m:=by unfold pot;omega
theorem KS.new (w:World) (ks:List Int):KS (w.alloc (.cells (ks.map (Value.int .i64)).toArray 3)) (.slice (some ⟨w.heap.size,0,none⟩) ks.length ks.length) ks:=by
 refine⟨⟨_,_,rfl,fun _=>⟨_,_,rfl,Nat.zero_le _,by simp,fun i hi=>⟨_,rfl,fun j hj=>?_⟩⟩⟩,fun g o n c e _=>?_⟩
 .have:j=0:=by omega
  subst this;rw[World.cell?_alloc_at _ _ _ _ rfl];simp[List.getElem?_eq_getElem hi]
 cases e;exact⟨_,_,heap_alloc_new _ _⟩
theorem SM.outN {V:Env} {src:ByteArray} {r B:Nat} {D:Nat->Prop} {w:World} {p:Nat} {x:Option (List Nd)} {m:Nat} (h:SM V src r B D w p x m) {g n c:Nat} (hg:w.heap.size<=g):Out D (.slice (some ⟨g,0,none⟩) n c):=fun b hb hd=>by
 have e:g=b:=by simpa[Value.ownBlock] using hb
 have:=h.dl b hd;omega
section
variable {V : Env} {s : ByteArray} {op : Int} {A : M Int} {p : Nat} {x : Option (List Nd)} {m q : Nat} {y : Option (List Nd)} {m' : Nat} {a : Int} {d c : Nat}
theorem Res.preF {k:Nat} (h:Tq V p x s false) (hk:∀ o,x=some o->V.ts.length-p<k) (g:Res V d c (A p) p x m q y m' a):Res V d c (pre V s op A k p) p x m q y m' a:=
 g.congr (fun o ho=>by
 have:=hk o ho;obtain⟨k',rfl⟩:∃ k',k=k'+1:=⟨k-1,by omega⟩;simp[pre,h.no ho])
theorem Res.preT {k t m2:Nat} {z:Option (List Nd)} {b:Int} (h:Tq V p x s true) (g:Res V d c (pre V s op A k (p+1)) (p+1) x m q y m' a) (l:Res V 1 0 (lay { op:=op,kids:=[a],pos:=V.pos p } q) q y m' t z m2 b) (hd:d<=900:=by omega):Res V 0 (c+0+1000-(d+1)) (pre V s op A (k+1) p) p x m t z m2 b:=
  Res.tkT h (g.bind (K:=fun k q o=>lay { op:=op,kids:=[k],pos:=V.pos p } q o) l) (B:=fun o=>A p o) (fun o=>rfl)
end
theorem b3m {V:Env} {src:ByteArray} {n:Nat} {A:M Int} (hV:VO V src) (hA:a0w V src 154 10 n A):∀ k,∀ {r B:Nat} {D:Nat->Prop} {w:World} {p:Nat} {x:Option (List Nd)} {m:Nat},SM V src r B D w p x m->(∀ o,x=some o->V.ts.length-p<n)->(∀ o,x=some o->V.ts.length-p<k)->pot V p x m+10<=4000000->Calls prog 127 #[.pointer (some ⟨r,0,none⟩)] w fun e w'=>a3h V src r B D 10 (pre V g_minus 4 A k p) w p x m e w'
 | k,r,B,D,w,p,x,m,h,hn,hk,hp=>by
  have hT:=hV.n;have hle:=h.le
  have a0:(p:Int)<=2000:=by omega
  obtain⟨ta,tc,oa,oc,c0,c1,c2,c3,c4,f2,f3,f4,ht⟩:=h.cells;go_enter func127,ntmps127;go_wp2_with fail;refine(a0G hV h g_minus).mono ?_;rintro e w1 ⟨b,rfl,hq,h1⟩;replace h1:=h1.symm;subst h1
  cases b with
  | false=>
   go_wp2_with fail;refine(hA h hn hp).mono ?_;rintro e w3 ⟨a,q,y,m3,rfl,h3,s3,r3⟩;have HR:=hid (Res.preF (s:=g_minus) (op:=4) hq hk r3);go_wp2;go_ret;exact⟨_,_,_,_,rfl,h3,s3,HR.out⟩
  | true=>
  obtain⟨o,e1,e2,e3⟩:=hq.yes;have a2:=hk o e1;have a3:=hn o e1;obtain⟨k',rfl⟩:∃ k',k=k'+1:=⟨k-1,by omega⟩;go_wp2_with fail;refine(a0C hV h).mono ?_;rintro e w1 ⟨rfl,a0⟩;have h1:=h.below a0;have s1:=h.sp.below a0;clear c0 c1 c2 c3 c4 f2 f3 f4 ht;obtain⟨ta,tc,oa,oc,c0,c1,c2,c3,c4,f2,f3,f4,ht⟩:=h1.cells;have h2:=h1.at (q:=p+1) (by omega) (z:=(p:Int)+1) rfl;have s2:=s1.setR (j:=2) (.int .i64 ((p:Int)+1)) (by decide);go_wp2_with fail;refine(b3m hV hA k' h2 (fun o _=>by omega) (fun o _=>by omega) (by have:=a0j (m:=m) e1 e3;omega)).mono ?_;rintro e w3 ⟨a,q,y,m3,rfl,h3,s3,r3⟩;have a1:=s2.trans s3;have a4:=r3.le;have a5:=a0r (V:=V) (p:=q) (x:=y) (m:=m3);have hps:=a0j (m:=m) e1 e3;go_wp2_with fail
  refine(a0g (h3.alloc _) (by omega) { op:=4,kids:=[a],pos:=V.pos p } _ (KS.new w3 [a]) (fun _=>h3.outN (Nat.le_refl _))).mono ?_;rintro e w4 ⟨rfl,h4,s4,r4⟩;have HR:=hid (Res.preT hq r3 r4);go_wp2;go_ret;exact⟨_,_,_,_,rfl,h4,(a1.alloc _).trans s4,HR.out.weak (by omega) (by omega)⟩
def gOf {α:Type} (G:List Nd->R α) (q:Nat):Option (List Nd)->R α
 | some o=>G o
 | none=>.bad q
structure Lp {α:Type} (V:Env) (d c:Nat) (F G:List Nd->R α) (p:Nat) (x:Option (List Nd)) (m q:Nat) (y:Option (List Nd)) (m':Nat):Prop where
  no:x=none->y=none/\q=p
  yes:∀ o,x=some o->F o=gOf G q y
  up:p<=q
  pt:pot V q y m'+(if y.isSome then c else 0)<=pot V p x m+d
section
variable {α β : Type} {V : Env} {d c d' c' : Nat} {F G : List Nd -> R α} {p : Nat} {x : Option (List Nd)} {m q : Nat} {y : Option (List Nd)} {m' : Nat}
theorem Lp.refl (V:Env) (F:List Nd->R α) (p:Nat) (x:Option (List Nd)) (m:Nat):Lp V 0 0 F F p x m p x m:=⟨fun h=>⟨h,rfl⟩,fun o h=>by rw[h];rfl,Nat.le_refl _,by simp⟩
theorem Lp.le (h:Lp V d c F G p x m q y m'):pot V q y m'<=pot V p x m+d:=by have:=h.pt;omega
theorem Lp.ok (h:Lp V d c F G p x m q y m') {o:List Nd} (e:y=some o):pot V q y m'+c<=pot V p x m+d/\∃ o0,x=some o0:=by
 have:=h.pt;rw[e] at this ⊢;simp only[Option.isSome_some,if_true] at this
 cases x with
 | some o0=>exact⟨this,o0,rfl⟩
 | none=>
 have:=(h.no rfl).1;rw[e] at this;cases this
theorem Lp.fuel (h:Lp V d c F G p x m q y m') {n:Nat} (hn:∀ o,x=some o->V.ts.length-p<n):∀ o,y=some o->V.ts.length-q<n:=fun o e=>by
 obtain⟨_,o0,e0⟩:=h.ok e;have:=hn o0 e0;have:=h.up;omega
theorem Lp.congr {G':List Nd->R α} (h:Lp V d c F G p x m q y m') (e:∀ o,y=some o->G o=G' o):Lp V d c F G' p x m q y m':=⟨h.no,fun o ho=>by
 rw[h.yes o ho]
 cases y with
 | none=>rfl
 | some o1=>
 exact e o1 rfl,h.up,h.pt⟩
theorem Lp.weak (h:Lp V d c F G p x m q y m') (h1:d<=d') (h2:d+c'<=c+d'):Lp V d' c' F G p x m q y m':=⟨h.no,h.yes,h.up,by
 have:=h.pt;by_cases hy:y.isSome=true
 .simp only[hy,if_true] at this ⊢;omega
 simp only[hy] at this ⊢;simp at this ⊢;omega⟩
theorem Lp.bind {H:List Nd->R β} {K:β->Nat->List Nd->R α} {t:Nat} {z:Option (List Nd)} {m2:Nat} {b:β} (h:Lp V d c F G p x m q y m') (r:Res V d' c' H q y m' t z m2 b) (e:∀ o,G o=(H o).bind K:=by exact fun _=>rfl):Lp V (d+d') (c+c') F (K b t) p x m t z m2:=by
 refine⟨fun e=>?_,fun o ho=>?_,Nat.le_trans h.up r.up,?_⟩
 .obtain⟨e1,e2⟩:=h.no e;obtain⟨e3,e4⟩:=r.no e1;exact⟨e3,e4.trans e2⟩
 .rw[h.yes o ho]
  cases y with
  | none=>
   obtain⟨e3,e4⟩:=r.no rfl;subst e3 e4;rfl
  | some o1=>
  show G o1=_
  rw[e o1,r.yes o1 rfl]
  cases z<;>rfl
 have h1:=h.pt;have h2:=r.pt
 cases y with
 | none=>
  obtain⟨e3,e4⟩:=r.no rfl;subst e3 e4;simp at h1 h2 ⊢;omega
 | some o1=>
 by_cases hz:z.isSome=true
 .simp only[hz,if_true,Option.isSome_some] at h1 h2 ⊢;omega
 simp only[hz,if_true,Option.isSome_some] at h1 h2 ⊢;simp at h1 h2 ⊢;omega
theorem Lp.pay (h:Lp V d c F G p x m q y m') {o:List Nd} (e:y=some o) {H:List Nd->R β} {K:β->Nat->List Nd->R α} {t:Nat} {z:Option (List Nd)} {m2:Nat} {b:β} (r:Res V d' c' H q y m' t z m2 b) (e2:∀ o,G o=(H o).bind K):Lp V (d+d'-c) (c'+(c-(d+d'))) F (K b t) p x m t z m2:=by
 have h0:=h.bind r e2;refine⟨h0.no,h0.yes,h0.up,?_⟩;have h1:=h.pt;have h2:=r.pt;rw[e] at h1;rw[e] at h2;by_cases hz:z.isSome=true
 .simp only[hz,if_true,Option.isSome_some] at h1 h2 ⊢;omega
 simp only[hz,if_true,Option.isSome_some] at h1 h2 ⊢;simp at h1 h2 ⊢;omega
theorem Lp.tkT {s:ByteArray} {A B:List Nd->R α} (h:Lp V d c F G p x m q y m') (t:Tq V q y s true) (e:∀ o,G o=if sees V q s then A o else B o:=by exact fun _=>rfl):Lp V d (c+1000) F A p x m (q+1) y m':=by
 obtain⟨o,e1,e2,e3⟩:=t.yes;have hp:=a0j (m:=m') e1 e3;have:=h.up;refine⟨fun z=>by(have:=(h.no z).1;rw[e1] at this;cases this),fun o2 h2=>?_,by omega,?_⟩
 .rw[h.yes o2 h2,e1]
  show G o=A o
  rw[e o,if_pos e2]
 have:=h.pt;rw[e1] at this hp ⊢;simp only[Option.isSome_some,if_true] at this ⊢;omega
theorem Lp.tkF {s:ByteArray} {A B:List Nd->R α} (h:Lp V d c F G p x m q y m') (t:Tq V q y s false) (e:∀ o,G o=if sees V q s then A o else B o:=by exact fun _=>rfl):Lp V d c F B p x m q y m':=
  h.congr (fun o ho=>by rw[e o,if_neg (by rw[t.no ho];simp)])
theorem Lp.seT {s:ByteArray} {A B:List Nd->R α} (h:Lp V d c F G p x m q y m') (t:Tq V q y s true) (e:∀ o,G o=if sees V q s then A o else B o):Lp V d c F A p x m q y m':=
  h.congr (fun o ho=>by obtain⟨_,_,e2,_⟩:=t.yes;rw[e o,if_pos e2])
theorem Lp.step {A:List Nd->R α} (h:Lp V d c F G p x m q y m') {o:List Nd} (e1:y=some o) (e3:q<V.ts.length) (e:∀ o,y=some o->G o=A o):Lp V d (c+1000) F A p x m (q+1) y m':=by
 have hp:=a0j (m:=m') e1 e3;have:=h.up;refine⟨fun z=>by(have:=(h.no z).1;rw[e1] at this;cases this),fun o2 h2=>?_,by omega,?_⟩
 .rw[h.yes o2 h2,e1];exact e o e1
 have:=h.pt;rw[e1] at this hp ⊢;simp only[Option.isSome_some,if_true] at this ⊢;omega
theorem Lp.opt {s:ByteArray} {b:Bool} (A:Bool->List Nd->R α) (h:Lp V d c F G p x m q y m') (t:Tq V q y s b) (e:∀ o,G o=A (sees V q s) o):Lp V d c F (A b) p x m (q+stp b) y m':=by
 cases b with
 | false=>exact h.congr (fun o ho=>by rw[e o,t.no ho])
 | true=>
 obtain⟨o,e1,e2,e3⟩:=t.yes;exact(h.step e1 e3 (fun o _=>by rw[e o,e2])).weak (Nat.le_refl _) (by omega)
theorem Lp.done {a:α} (h:Lp V d c F G p x m q y m') (e:∀ o,y=some o->G o=.ok a q o):Res V d c F p x m q y m' a:=⟨h.no,fun o ho=>by
 rw[h.yes o ho]
 cases y with
 | none=>rfl
 | some o1=>
 exact e o1 rfl,h.up,h.pt⟩
theorem Lp.last {t:Nat} {z:Option (List Nd)} {m2:Nat} {b:α} (h:Lp V d c F G p x m q y m') (r:Res V d' c' G q y m' t z m2 b):Res V (d+d') (c+c') F p x m t z m2 b:=
  (h.bind (K:=fun a p o=>.ok a p o) r (fun o=>by cases G o<;>rfl)).done (fun _ _=>rfl)
theorem Lp.lastS {t:Nat} {z:Option (List Nd)} {m2:Nat} {b:α} (h:Lp V d c F G p x m q y m') {o:List Nd} (e:y=some o) (r:Res V d' c' G q y m' t z m2 b):Res V (d+d'-c) (c'+(c-(d+d'))) F p x m t z m2 b:=
  (h.pay e (K:=fun a p o=>.ok a p o) r (fun o=>by cases G o<;>rfl)).done (fun _ _=>rfl)
theorem Lp.fail {a : α} (h : Lp V d c F G p x m q y m') (e : ∀ o, y = some o -> G o = .bad q) (cc : Nat) : Res V d cc F p x m q none m' a := ⟨fun z => ⟨rfl, (h.no z).2⟩, fun o ho => by
 rw [h.yes o ho]
 cases y with
 | none => rfl
 | some o1 => exact e o1 rfl, h.up, by
   have := h.le
   simp [pot] at this ⊢
   omega⟩
end
section
variable {α : Type} {V : Env} {d c d2 c2 : Nat} {F G G' : List Nd -> R α} {p : Nat} {x : Option (List Nd)} {m q : Nat} {y : Option (List Nd)} {m' q2 : Nat} {y2 : Option (List Nd)} {m2 : Nat}
theorem Lp.rest (h:Lp V d c F G p x m q y m'):Lp V 0 0 G G q y m' q y m':=Lp.refl V G q y m'
theorem Lp.comp (l:Lp V d c F G p x m q y m') (l2:Lp V d2 c2 G G' q y m' q2 y2 m2):Lp V (d+d2) (c+c2) F G' p x m q2 y2 m2:=by
 refine⟨fun e=>?_,fun o ho=>?_,Nat.le_trans l.up l2.up,?_⟩
 .obtain⟨e1,e2⟩:=l.no e;obtain⟨e3,e4⟩:=l2.no e1;exact⟨e3,e4.trans e2⟩
 .rw[l.yes o ho]
  cases y with
  | some o1=>exact l2.yes o1 rfl
  | none=>
  obtain⟨e3,e4⟩:=l2.no rfl;subst e3 e4;rfl
 have h1:=l.pt;have h2:=l2.pt
 cases y with
 | none=>
  obtain⟨e3,e4⟩:=l2.no rfl;subst e3 e4;simp at h1 h2 ⊢;omega
 | some o1=>
 by_cases hz:y2.isSome=true
 .simp only[hz,if_true,Option.isSome_some] at h1 h2 ⊢;omega
 simp only[hz,if_true,Option.isSome_some] at h1 h2 ⊢;simp at h1 h2 ⊢;omega
theorem Lp.compS (l:Lp V d c F G p x m q y m') {o:List Nd} (e:y=some o) (l2:Lp V d2 c2 G G' q y m' q2 y2 m2):Lp V (d+d2-c) (c2+(c-(d+d2))) F G' p x m q2 y2 m2:=by
 have h0:=l.comp l2;refine⟨h0.no,h0.yes,h0.up,?_⟩;have h1:=l.pt;have h2:=l2.pt;rw[e] at h1;rw[e] at h2;by_cases hz:y2.isSome=true
 .simp only[hz,if_true,Option.isSome_some] at h1 h2 ⊢;omega
 simp only[hz,if_true,Option.isSome_some] at h1 h2 ⊢;simp at h1 h2 ⊢;omega
end
theorem Lp.over {α:Type} {V:Env} {d c d2 c2 C:Nat} {F G G':List Nd->R α} {p:Nat} {x:Option (List Nd)} {m q:Nat} {y:Option (List Nd)} {m' q2:Nat} {y2:Option (List Nd)} {m2:Nat} (l:Lp V d c F G p x m q y m') (hq:pot V q y m'+C<=pot V p x m) (l2:Lp V d2 c2 G G' q y m' q2 y2 m2) (hd:d2<=C):Lp V 0 (c2+(C-d2)) F G' p x m q2 y2 m2:=by
 refine⟨fun e=>?_,fun o ho=>?_,Nat.le_trans l.up l2.up,?_⟩
 .obtain⟨e1,e2⟩:=l.no e;obtain⟨e3,e4⟩:=l2.no e1;exact⟨e3,e4.trans e2⟩
 .rw[l.yes o ho]
  cases y with
  | some o1=>exact l2.yes o1 rfl
  | none=>
  obtain⟨e3,e4⟩:=l2.no rfl;subst e3 e4;rfl
 have:=l2.pt;by_cases hy:y2.isSome=true
 .simp only[hy,if_true] at this ⊢;omega
 simp only[hy] at this ⊢;simp at this ⊢;omega
theorem b4W {V:Env} {p q:Nat} {x:Option (List Nd)} {m:Nat} (h:p<=q):pot V q x m<=pot V p x m:=by
 unfold pot
 split<;>omega
theorem Res.fuel {α:Type} {V:Env} {d c n:Nat} {F:List Nd->R α} {p:Nat} {x:Option (List Nd)} {m q:Nat} {y:Option (List Nd)} {m':Nat} {a:α} (h:Res V d c F p x m q y m' a) (hn:∀ o,x=some o->V.ts.length-p<n):∀ o,y=some o->V.ts.length-q<n:=fun o e=>by
 obtain⟨_,o0,e0⟩:=h.ok e;have:=hn o0 e0;have:=h.up;omega
def retI:Ending->Int
 | .returned (.int _ k)=>k
 | _=>0
def b1b (V:Env) (src:ByteArray) (r B:Nat) (D:Nat->Prop) (d:Nat) (F:List Nd->R Int) (w:World) (p:Nat) (x:Option (List Nd)) (m:Nat) (e:Ending) (w':World):Prop:=
  0<=retI e/\a3h V src r B D d F w p x m e w'
def SRule0 (V:Env) (src:ByteArray) (K d n:Nat) (F:M Int):Prop:=∀ {r B:Nat} {D:Nat->Prop} {w:World} {p:Nat} {x:Option (List Nd)} {m:Nat},SM V src r B D w p x m->(∀ o,x=some o->V.ts.length-p<n)->pot V p x m+d<=4000000->Calls prog K #[.pointer (some ⟨r,0,none⟩)] w fun e w'=>b1b V src r B D d (F p) w p x m e w'
theorem SRule0.r {V:Env} {src:ByteArray} {K d n:Nat} {F:M Int} (h:SRule0 V src K d n F):a0w V src K d n F:=fun hs hn hp=>(h hs hn hp).mono (fun _ _ z=>z.2)
end Go.Proofs.YtphmpkpcamgjeaaGreatDoor
