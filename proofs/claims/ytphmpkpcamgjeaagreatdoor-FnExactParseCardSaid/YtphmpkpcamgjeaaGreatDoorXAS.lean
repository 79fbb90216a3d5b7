import Derived.Test.YtphmpkpcamgjeaaGreatDoorXAA
import Derived.Test.YtphmpkpcamgjeaaGreatDoorXAR
import Derived.Test.YtphmpkpcamgjeaaGreatDoorXAO
set_option linter.unusedVariables false
set_option linter.unusedSimpArgs false
set_option maxRecDepth 100000
set_option maxHeartbeats 16000000
namespace Go.Proofs.YtphmpkpcamgjeaaGreatDoor
open Go.ChangeShapes Go.WideShapes Go.ChangeAt Go.RowKit Go.Proofs.Tryz
theorem cell_lt {w:World} {g o:Nat} {v:Value} (h:w.cell? ⟨g,o,none⟩=some v):g<w.heap.size:=by
 rcases Nat.lt_or_ge g w.heap.size with k | k
 .exact k
 simp[World.cell?,Array.getElem?_eq_none k] at h
theorem b1L {V:Env} {p:Nat} {k:Int} (h:V.kd p=k) (hk:k≠0):p<V.ts.length:=by
 rcases Nat.lt_or_ge p V.ts.length with g | g
 .exact g
 rw[Env.kd_out g] at h;omega
section
variable {V : Env} {src : ByteArray} {r B : Nat} {D : Nat -> Prop} {w : World} {p : Nat} {x : Option (List Nd)} {m : Nat}
theorem number_any (hV:VO V src) (hE:SV V) (h:SM V src r B D w p x m) (hk:V.kd p=3) :
 Calls prog 93 #[.pointer (some ⟨r,0,none⟩)] w fun e w'=>e=.returned (.int .i64 (V.ri (V.tx p)))/\SM V src r B D w' (p+1) x m/\Sp 3 r w w':=by
 obtain⟨ta,tc,oa,oc,c0,c1,c2,c3,c4,f2,f3,f4,ht⟩:=h.cells;have hn:=hV.n;have hlt:=b1L hk (by omega)
 have a0:(p:Int)<=2000:=by omega
 obtain⟨g,o,rfl,htk⟩:=ht (by omega);obtain⟨t0,t1,t2⟩:=htk p hlt
 have a1:(p:Int)<V.ts.length:=by omega
 have a2:(0:Int)<=(p:Int):=by omega
 clear htk ht t0 t2 c0 c3 c4 f3 f4;have hcl:=hE.rdi p hk;generalize V.ri (V.tx p)=ri at *;generalize V.tx p=tx at *;go_enter func93,ntmps93;go_wp2
 go_region_held3 (fun W=>W.cell? ⟨r,1,none⟩=some (.slice (some ⟨g,o,none⟩) V.ts.length tc)/\W.cell? ⟨r,2,none⟩=some (.int .i64 p)/\W.cell? ⟨g,o+p*3+1,none⟩=some (.string tx)) (go_keep)
   ((go_at_call 131;refine(hcl _).mono ?_;rintro e w1 ⟨rfl,b1⟩;have h1:=h.below (a1p b1);have s1:=h.sp.below (a1p b1);have y0:=(a1p b1).cell (p:=⟨r,1,none⟩) h.rl;have y1:=(a1p b1).cell (p:=⟨r,2,none⟩) h.rl;have y2:=(a1p b1).frozen (p:=⟨r,2,none⟩) h.rl;rw[c1] at y0;rw[c2] at y1;rw[f2] at y2;have y3:=(a1p b1).cell (p:=⟨g,o+p*3+1,none⟩) (cell_lt t1);rw[t1] at y3))
 go_wp2;go_ret;exact⟨rfl,h1.at (by omega) rfl,s1.setR _ (by decide)⟩
theorem Res.step {α:Type} {V:Env} {F:List Nd->R α} {p m:Nat} {o:List Nd} {a:α} (hp:p<V.ts.length) (h:F o=.ok a (p+1) o):Res V 0 1000 F p (some o) m (p+1) (some o) m a:=by
 have:=a0j (m:=m) (V:=V) (x:=some o) rfl hp;exact⟨fun e=>by(cases e),fun o2 e=>by(cases e;exact h),by omega,by simp;omega⟩
theorem count_any (hV:VO V src) (hE:SV V) (h:SM V src r B D w p x m) :
 Calls prog 56 #[.pointer (some ⟨r,0,none⟩)] w fun e w'=>∃ k q y,e=.returned (.int .i64 k)/\SM V src r B D w' q y m/\Sp 3 r w w'/\Res V 0 1000 (a0X V p) p x m q y m k/\0<=k:=by
 go_enter func56,ntmps56;go_wp2_with fail;refine(a4h hV h 3 (by omega)).mono ?_;rintro e w1 ⟨b,rfl,hb,b1⟩;have h1:=h.below b1;have s1:=h.sp.below b1
 cases b with
 | false=>
  have HR:=hid (Res.fail V 1000 (a0X V p) p x m (0:Int) (fun o e=>by
   subst e
   have hk:(V.kd p==3)=false:=by simpa using hb.symm
   simp[a0X,hk]))
  obtain⟨ta,tc,oa,oc,c0,c1,c2,c3,c4,f2,f3,f4,ht⟩:=h1.cells;clear hb;go_wp2;go_ret;exact⟨_,_,_,rfl,h1.bad,s1.setR _ (by decide),HR.out,by omega⟩
 | true=>
 obtain⟨o,e1,hk⟩:∃ o,x=some o/\V.kd p=3:=by
  cases x with
  | none=>simp at hb
  | some o=>
  exact⟨o,rfl,by simpa using hb.symm⟩
 subst e1;clear hb;have HR:=hid (Res.step (V:=V) (F:=a0X V p) (p:=p) (m:=m) (o:=o) (a:=V.ri (V.tx p)) (b1L hk (by omega)) (by simp[a0X,hk]));have HN:=hid (hE.rin p hk);have HK:=hid hk;clear hk;go_wp2_with fail;refine(number_any hV hE h1 HK.out).mono ?_;rintro e w2 ⟨rfl,h2,z2⟩;go_wp2;go_ret;exact⟨_,_,_,rfl,h2,s1.trans z2,HR.out,HN.out⟩
theorem a1F (h:SM V src r B D w p x m) (hm:m<=5000000) (vk vn:Int) (vs:ByteArray) (ps:Int) :
 Calls prog 175 #[.pointer (some ⟨r,0,none⟩),.agg #[.int .i64 vk,.int .i64 vn,.string vs],.int .i64 ps] w fun e w'=>∃ y,e=.returned (.int .i64 (m:Int))/\SM V src r B D w' p y (m+1)/\Sp 3 r w w'/\Res V 1 0 (lit vk vn vs ps p) p x m p y (m+1) (m:Int):=by
 have h1:=h.alloc (.cells #[.int .i64 vk,.int .i64 vn,.string vs] 40);have s1:=h.sp.alloc (.cells #[.int .i64 vk,.int .i64 vn,.string vs] 40);go_enter func175,ntmps175;go_wp2_with fail;refine(a0g h1 hm { op:=1,vk:=vk,vn:=vn,vs:=vs,pos:=ps } (.slice none 0 0) (TL.nil _ _ _ _) (fun h=>by simp at h)).mono ?_;rintro e w2 ⟨rfl,h2,z2,r2⟩;go_wp2;go_ret;exact⟨_,rfl,h2,s1.trans z2,r2⟩
theorem b7k (hV:VO V src) (hE:SV V) (h:SM V src r B D w p x m) (ps:Int) (hp:pot V p x m+1<=4000000) :
 Calls prog 177 #[.pointer (some ⟨r,0,none⟩),.int .i64 ps] w fun e w'=>∃ k q y m',e=.returned (.int .i64 k)/\SM V src r B D w' q y m'/\Sp 3 r w w'/\Res V 1 0 (dayF V ps p) p x m q y m' k:=by
 have a1:=a0r (V:=V) (p:=p) (x:=x) (m:=m);go_enter func177,ntmps177;go_wp2_with fail;refine(a4h hV h 5 (by omega)).mono ?_;rintro e w1 ⟨b,rfl,hb,b0⟩;have s0:=h.sp.below b0;replace h:=h.below b0
 cases b with
 | false=>
  have HR:=hid ((Res.fail V 0 (dayF V ps p) p x m (0:Int) (fun o e=>by
   subst e
   have hk:(V.kd p==5)=false:=by simpa using hb.symm
   simp[dayF,hk])).weak (d':=1) (c':=0) (by omega) (by omega))
  obtain⟨ta,tc,oa,oc,c0,c1,c2,c3,c4,f2,f3,f4,ht⟩:=h.cells;clear hb;go_wp2;go_ret;exact⟨_,_,_,_,rfl,h.bad,s0.setR _ (by decide),HR.out⟩
 | true=>
 obtain⟨o1,e1,hk⟩:∃ o,x=some o/\V.kd p=5:=by
  cases x with
  | none=>simp at hb
  | some o=>
  exact⟨o,rfl,by simpa using hb.symm⟩
 subst e1;obtain⟨ta,tc,oa,oc,c0,c1,c2,c3,c4,f2,f3,f4,ht⟩:=h.cells;have hn:=hV.n;have hlt:=b1L hk (by omega)
 have a2:(p:Int)<=2000:=by omega
 obtain⟨g,o,rfl,htk⟩:=ht (by omega);obtain⟨t0,t1,t2⟩:=htk p hlt
 have a3:(p:Int)<V.ts.length:=by omega
 have a4:(0:Int)<=(p:Int):=by omega
 clear htk ht t0 t2 c0 c3 f3 hb;have hcl:=hE.rdt p hk
 have HD:Hid (dayF V ps p o1=dayE (V.rt (V.tx p)) ps p o1):=by
  unfold Hid dayF;rw[if_pos (by simp[hk])]
 clear hk;have HS:=hid (h.sp.rl);generalize V.rt (V.tx p)=rt at *;generalize V.tx p=tx at *;go_wp2
 go_region_held3 (fun W=>W.cell? ⟨r,1,none⟩=some (.slice (some ⟨g,o,none⟩) V.ts.length tc)/\W.cell? ⟨r,2,none⟩=some (.int .i64 p)/\W.cell? ⟨g,o+p*3+1,none⟩=some (.string tx)) (go_keep)
   ((go_at_call 200;refine(hcl _).mono ?_;rintro e w1 ⟨nn,rfl,hnn,b1⟩;have h1:=h.below (a1p b1);have s1:=h.sp.below (a1p b1);have y4:=(a1p b1).frozen (p:=⟨r,4,none⟩) h.rl;rw[f4] at y4;have y5:=(a1p b1).cell (p:=⟨r,4,none⟩) h.rl;rw[c4] at y5;have y0:=(a1p b1).cell (p:=⟨r,1,none⟩) h.rl;have y1:=(a1p b1).cell (p:=⟨r,2,none⟩) h.rl;have y2:=(a1p b1).frozen (p:=⟨r,2,none⟩) h.rl;rw[c1] at y0;rw[c2] at y1;rw[f2] at y2;have y3:=(a1p b1).cell (p:=⟨g,o+p*3+1,none⟩) (cell_lt t1);rw[t1] at y3))
 cases rt with
 | none=>
  have HR:Hid (Res V 1 0 (dayF V ps p) p (some o1) m p none m (0:Int)):=(Res.fail V 0 (dayF V ps p) p (some o1) m (0:Int) (fun o2 e=>by(cases e;exact HD.out))).weak (by omega) (by omega);go_wp2;go_ret;exact⟨_,_,_,_,rfl,h1.bad,s0.trans (s1.setR _ (by decide)),HR.out⟩
 | some k=>
 have a0:=hnn k rfl;subst a0;have h2:=h1.at (q:=p+1) (by omega) (z:=(p:Int)+1) rfl;have s2:=s1.setR (j:=2) (.int .i64 ((p:Int)+1)) (by decide);have hps:=a0j (m:=m) (V:=V) (x:=some o1) rfl hlt;go_wp2_with fail;refine(a1F h2 (by omega) 5 nn ⟨#[]⟩ ps).mono ?_;rintro e w3 ⟨y3,rfl,h3,z3,r3⟩;have HR:Hid (Res V 1 0 (dayF V ps p) p (some o1) m (p+1) y3 (m+1) (m:Int)):=⟨fun e=>by(cases e),fun o2 e=>by(cases e;rw[HD.out];exact r3.yes o1 rfl),by omega,by have:=r3.pt;omega⟩;go_wp2;go_ret;exact⟨_,_,_,_,rfl,h3,(s0.trans s2).trans z3,HR.out⟩
end
def Pn (V:Env) (p:Nat) (x:Option (List Nd)) (ss:List ByteArray) (i:Nat):Prop:=∀ o,x=some o->pick V ss p=(pick V (ss.drop i) p).map (·+i)
theorem Pn.zero (V:Env) (p:Nat) (x:Option (List Nd)) (ss:List ByteArray):Pn V p x ss 0:=fun o _=>by simp
section
variable {V : Env} {p : Nat} {x : Option (List Nd)} {ss : List ByteArray} {i : Nat} {s : ByteArray}
theorem Pn.next (h:Pn V p x ss i) (hs:ss[i]?=some s) (t:Tq V p x s false):Pn V p x ss (i+1):=fun o e=>by
 obtain⟨hi,a0⟩:=List.getElem?_eq_some_iff.1 hs;rw[h o e,List.drop_eq_getElem_cons hi,a0];simp only[pick,t.no e];simp
 cases pick V (ss.drop (i+1)) p<;>simp<;>omega
theorem Pn.hit (h:Pn V p x ss i) (hs:ss[i]?=some s) (t:Tq V p x s true):Pq V p x ss (some i):=by
 obtain⟨o,e1,e2,e3⟩:=t.yes;obtain⟨hi,a0⟩:=List.getElem?_eq_some_iff.1 hs;refine⟨fun e=>by(rw[e1] at e;cases e),fun o2 e=>?_⟩;rw[h o2 e,List.drop_eq_getElem_cons hi,a0];simp[pick,e2]
theorem Pn.fin (h:Pn V p x ss i) (hi:ss.length<=i):Pq V p x ss none:=⟨fun _=>rfl,fun o e=>by rw[h o e,List.drop_eq_nil_of_le hi];rfl⟩
end
def WR (w:World) (g:Nat) (ss:List ByteArray):Prop:=tag w g 9/\∀ i s,ss[i]?=some s->w.cell? ⟨g,i,none⟩=some (.string s)
theorem WR.new (w:World) (ss:List ByteArray):WR (w.alloc (.cells (ss.map Value.string).toArray 9)) w.heap.size ss:=⟨⟨_,_,heap_alloc_new _ _⟩,fun i s hs=>by
 rw[World.cell?_alloc_at _ _ _ _ rfl];simp[hs]⟩
theorem WR.sp {V:Env} {src:ByteArray} {r B:Nat} {D:Nat->Prop} {w w':World} {p:Nat} {x:Option (List Nd)} {m g:Nat} {ss:List ByteArray} (h:WR w g ss) (k:SM V src r B D w p x m) (s:Sp 3 r w w'):WR w' g ss:=by
 have e:=(k.nb h.1 (by decide) (by decide)).heap s;exact⟨a4g h.1 e,fun i s hs=>(World.cell?_of_block (a:=⟨g,i,none⟩) e).trans (h.2 i s hs)⟩
theorem WR.below {w w':World} {g:Nat} {ss:List ByteArray} (h:WR w g ss) (b:Below w.heap.size w w'):WR w' g ss:=by
 have e:=b.block g (a0x h.1);exact⟨a4g h.1 e,fun i s hs=>(World.cell?_of_block (a:=⟨g,i,none⟩) e).trans (h.2 i s hs)⟩
section
variable {V : Env} {src : ByteArray} {r B : Nat} {D : Nat -> Prop} {w : World} {p : Nat} {x : Option (List Nd)} {m : Nat}
theorem Res.pick {F:List Nd->R Int} {ss:List ByteArray} {i:Nat} {a:Int} (h:Pq V p x ss (some i)) (e:∀ o,pick V ss p=some i->F o=.ok a (p+1) o):Res V 0 1000 F p x m (p+1) x m a:=by
 obtain⟨o,e1,e2,e3,_⟩:=h.some;subst e1;exact Res.step e3 (e o e2)
def b8B (V:Env) (src:ByteArray) (r B:Nat) (D:Nat->Prop) (F:List Nd->R Int) (w:World) (p:Nat) (x:Option (List Nd)) (m:Nat) (e:Ending) (w':World):Prop:=∃ k q y,e=.returned (.int .i64 k)/\SM V src r B D w' q y m/\Sp 3 r w w'/\Res V 0 1000 F p x m q y m k
theorem a4i (hV:VO V src) (h:SM V src r B D w p x m) :
 Calls prog 126 #[.pointer (some ⟨r,0,none⟩)] w fun e w'=>b8B V src r B D (a3s V p) w p x m e w':=by
 have a1:=WR.new w kindWords;have h0:=h.alloc (.cells (kindWords.map Value.string).toArray 9);have s0:=h.sp.alloc (.cells (kindWords.map Value.string).toArray 9);have P0:=hid (Pn.zero V p x kindWords);go_enter func126,ntmps126;go_wp2_with fail;go_loopw [9] (fun iv wr=>∃ i:Nat,i<=5/\iv=.int .i64 i/\SM V src r B D wr p x m/\Sp 3 r w wr/\WR wr w.heap.size kindWords/\Hid (Pn V p x kindWords i)) (fun iv _=>5-(intOf iv).toNat)
 case atStart=>exact⟨0,by omega,rfl,h0,s0,a1,P0⟩
 case round=>
 obtain⟨i,hi,rfl,h1,s1,a0,P1⟩:=hrel;by_cases hlt:i<5
 .obtain⟨ws,hws⟩:∃ s,kindWords[i]?=some s:=⟨kindWords[i]'hlt,List.getElem?_eq_getElem hlt⟩;have c9:=a0.2 i ws hws
  have a2:(i:Int)<5:=by omega
  go_wp2_with fail;refine(a0b hV h1 ws).mono ?_;rintro e w2 ⟨b2,rfl,t2,h2,z2⟩;have s2:=s1.trans z2
  cases b2 with
  | false=>
   replace h2:SM V src r B D w2 p x m:=h2;have a3:=a0.sp h1 z2;have P2:=hid (P1.out.next hws t2);go_wp2;go_roundw
   case rel=>exact⟨i+1,by omega,by go_num,h2,s2,a3,P2⟩
   case measure=>simp[intOf];omega
  | true=>
  replace h2:SM V src r B D w2 (p+1) x m:=h2;have HR:=hid (Res.pick (F:=a3s V p) (a:=((i:Int)+1)) (m:=m) (P1.out.hit hws t2) (fun o e=>by simp[a3s,e]))
  have hc:(1:Int)+i=i+1:=by omega
  go_wp2;go_ret;exact⟨_,_,_,by first | rfl | rw[hc],h2,s2,HR.out⟩
 have a2:¬ (i:Int)<5:=by omega
 have hP:=P1.out.fin (by simp[kindWords];omega);have HR:=hid (Res.fail V 1000 (a3s V p) p x m (0:Int) (fun o e=>by simp[a3s,<- hP.2 o e]));clear hP;obtain⟨ta,tc,oa,oc,c0,c1,c2,c3,c4,f2,f3,f4,ht⟩:=h1.cells;go_wp2;go_ret;exact⟨_,_,_,rfl,h1.bad,s1.setR _ (by decide),HR.out⟩
theorem a3y (hV:VO V src) (hE:SV V) (h:SM V src r B D w p x m) :
 Calls prog 155 #[.pointer (some ⟨r,0,none⟩)] w fun e w'=>∃ q y a,e=.returned (.string a)/\SM V src r B D w' q y m/\Sp 3 r w w'/\Res V 0 0 (a2C V p) p x m q y m a:=by
 have l0:=Lp.refl V (a2C V p) p x m;go_enter func155,ntmps155;go_wp2_with fail;refine(a0b hV h k_as).mono ?_;rintro e w1 ⟨b1,rfl,t1,h1,s1⟩
 cases b1 with
 | true=>
  replace h1:SM V src r B D w1 (p+1) x m:=h1;obtain⟨o1,e1,g1,a0⟩:=t1.yes;have l1:=l0.tkT t1;go_wp2_with fail;refine(name_any hV hE h1).mono ?_;rintro e w2 ⟨q2,y2,a2,rfl,h2,z2,r2⟩;have HR:=hid (l1.lastS e1 r2);go_wp2;go_ret;exact⟨_,_,_,rfl,h2,s1.trans z2,HR.out.weak (by omega) (by omega)⟩
 | false=>
 replace h1:SM V src r B D w1 p x m:=h1;have l1:=l0.tkF t1;obtain⟨ta,tc,oa,oc,c0,c1,c2,c3,c4,f2,f3,f4,ht⟩:=h1.cells
 cases x with
 | none=>
  have HR:=hid (l1.done (a:=(⟨#[]⟩:ByteArray)) (fun o e=>by cases e));go_wp2;go_ret;exact⟨_,_,_,rfl,h1,s1,HR.out⟩
 | some o=>
 go_wp2_with fail;refine(a4B hV hE h1).mono ?_;rintro e w2 ⟨rfl,b2⟩;have h2:=h1.below b2;have s2:=s1.below b2
 cases hnm:isNm V p with
 | false=>
  have HR:=hid (l1.done (a:=(⟨#[]⟩:ByteArray)) (fun o _=>by simp[hnm]));clear hnm;go_wp2;go_ret;exact⟨_,_,_,rfl,h2,s2,HR.out⟩
 | true=>
 have l2:Lp V 0 0 (a2C V p) (name V p) p (some o) m p (some o) m:=l1.congr (fun o _=>by simp[hnm]);clear hnm;go_wp2_with fail;refine(name_any hV hE h2).mono ?_;rintro e w3 ⟨q3,y3,a3,rfl,h3,z3,r3⟩;have HR:=hid (l2.last r3);go_wp2;go_ret;exact⟨_,_,_,rfl,h3,s2.trans z3,HR.out.weak (by omega) (by omega)⟩
end
end Go.Proofs.YtphmpkpcamgjeaaGreatDoor
namespace Go.Proofs.YtphmpkpcamgjeaaGreatDoor
open Go.ChangeShapes Go.WideShapes Go.ChangeAt Go.RowKit Go.Proofs.Tryz
open Go.Maps
section
variable {V : Env} {Mx : DataW Unit} {r B : Nat} {D : Nat -> Prop} {w : World} {p : Nat} {o : List Nd}
theorem Below.drewN {b:Nat} {w w':World} (h:Below b w w') (n:Nat):Below b w (w'.drewN n):=by
 induction n with
 | zero=>exact h
 | succ n ih=>
 exact ih.drew
theorem Env.tk_out {V:Env} {p:Nat} (h:V.ts.length<=p):V.kd p=0/\V.tx p=⟨#[]⟩/\V.pos p=V.en:=by simp[Env.kd,Env.tx,Env.pos,Env.tk,List.getElem?_eq_none h]
theorem a2Z (hV:IV V Mx) (h:IM V Mx r B D w p o) (k:Nat) (hk:k<=10) :
 Calls prog 108 #[.pointer (some ⟨r,0,none⟩),.int .i64 (k:Int)] w fun e w'=>e=.returned (.agg #[.int .i64 (V.kd (p+k)),.string (V.tx (p+k)),.int .i64 (V.pos (p+k))])/\Below w.heap.size w w':=by
 obtain⟨ta,tc,mb,oa,oc,c0,c1,c2,c3,c4,fz,hmap,ht⟩:=h.cells;have hn:=hV.n;have hle:=h.le
 have a4:(p:Int)<=2000:=by omega
 have a5:(k:Int)<=10:=by omega
 clear hmap c3 c4;have hrl:=h.rl;have a0:∀ x,(w.alloc x).cell? ⟨r,0,none⟩=some (.slice ta V.ts.length tc):=fun x=>((below_alloc w x).cell (p:=⟨r,0,none⟩) hrl).trans c0;have a1:∀ x,(w.alloc x).cell? ⟨r,1,none⟩=some (.int .i64 p):=fun x=>((below_alloc w x).cell (p:=⟨r,1,none⟩) hrl).trans c1;have a2:∀ x,(w.alloc x).cell? ⟨r,2,none⟩=some (.int .i64 V.en):=fun x=>((below_alloc w x).cell (p:=⟨r,2,none⟩) hrl).trans c2;by_cases hlt:p+k<V.ts.length
 .obtain⟨g,q,rfl,htk⟩:=ht (by omega);obtain⟨t0,t1,t2⟩:=htk (p+k) hlt
  have a3:(p:Int)+(k:Int)<V.ts.length:=by omega
  have hgl:g<w.heap.size:=cell_lt t0;have b0:∀ x,(w.alloc x).cell? ⟨g,q+(p+k)*3,none⟩=some (.int .i64 (V.kd (p+k))):=fun x=>((below_alloc w x).cell (p:=⟨g,q+(p+k)*3,none⟩) hgl).trans t0;have b1:∀ x,(w.alloc x).cell? ⟨g,q+(p+k)*3+1,none⟩=some (.string (V.tx (p+k))):=fun x=>((below_alloc w x).cell (p:=⟨g,q+(p+k)*3+1,none⟩) hgl).trans t1;have b2:∀ x,(w.alloc x).cell? ⟨g,q+(p+k)*3+2,none⟩=some (.int .i64 (V.pos (p+k))):=fun x=>((below_alloc w x).cell (p:=⟨g,q+(p+k)*3+2,none⟩) hgl).trans t2
  have hwr:IntKind.i64.wrap ((p:Int)+(k:Int))=(p:Int)+(k:Int):=by simp only[IntKind.wrap_i64,wrap64];omega
  clear htk ht;generalize V.kd (p+k)=kd at *;generalize V.tx (p+k)=tx at *;generalize V.pos (p+k)=ps at *;go_enter func108,ntmps108;go_wp2;go_quiet (fail);go_wp2;refine a0a (S:=(fun W=>W.cell? ⟨r,0,none⟩=some (.slice (some ⟨g,q,none⟩) V.ts.length tc)/\W.cell? ⟨r,1,none⟩=some (.int .i64 p)/\W.cell? ⟨g,q+(p+k)*3,none⟩=some (.int .i64 kd)/\W.cell? ⟨g,q+(p+k)*3+1,none⟩=some (.string tx)/\W.cell? ⟨g,q+(p+k)*3+2,none⟩=some (.int .i64 ps))) (late:=[12]) (by kernel_rfl) (by first | exact⟨a0 _,a1 _,b0 _,b1 _,b2 _⟩ | go_keep) (fun hHeld=>?_);refine tT 0 rfl hHeld ?_
  try simp only[Act.put,q1,q2,q3]
  refine tT 1 rfl hHeld ?_
  try simp only[Act.put,q1,q2,q3]
  refine tT 2 rfl hHeld ?_
  try simp only[Act.put,q1,q2,q3]
  refine tL 3 rfl hHeld ?_
  try simp only[Act.put,q1,q2,q3]
  refine tT 4 rfl hHeld ?_
  try simp only[Act.put,q1,q2,q3]
  refine tT 5 rfl hHeld ?_
  try simp only[Act.put,q1,q2,q3]
  refine tT 6 rfl hHeld ?_
  try simp only[Act.put,q1,q2,q3]
  refine tL 7 rfl hHeld ?_
  try simp only[Act.put,q1,q2,q3]
  refine tT 8 rfl hHeld ?_
  try simp only[Act.put,q1,q2,q3]
  refine tT 9 rfl hHeld ?_
  try simp only[Act.put,q1,q2,q3]
  refine a7q (i:=10) (v:=.pointer (some ⟨g,q+(p+k)*3,none⟩)) rfl (by kernel_rfl) (by kernel_rfl) (by kernel_rfl) (by kernel_rfl) (fun _ _ _ h=>h) (Or.inl ⟨by rfl,?_⟩) hHeld ?_
  .intro w;go_simp;rw[if_pos (by omega),show((p:Int)+(k:Int)).toNat=p+k by omega]
  try simp only[Act.put,q1,q2,q3]
  refine tL 11 rfl hHeld ?_
  try simp only[Act.put,q1,q2,q3]
  refine rL 12 rfl fun K hK=>?_;go_simp;refine hK _ _ ?_;clear hK K
  try simp only[Act.put,q1,q2,q3]
  refine a0h (by kernel_rfl) ?_ _;go_wp2;refine bodyPost_ret (v:=.agg #[.int .i64 kd,.string tx,.int .i64 ps]) (by simp[results,results108,go_sem]) rfl ⟨rfl,?_⟩;(go_light;repeat (first | with_reducible assumption | with_reducible exact Below.refl _ _ | (with_reducible refine Below.setCell ?_ ?_ _;rotate_left;(focus first | (simp;done) | (simp;omega) | omega)) | (with_reducible refine Below.alloc ?_ ?_ _;rotate_left;(focus first | (simp;done) | (simp;omega) | omega)) | with_reducible refine Below.drew ?_ | with_reducible refine Below.drewN ?_ _))
 obtain⟨e0,e1,e2⟩:=Env.tk_out (V:=V) (p:=p+k) (by omega);rw[e0,e1,e2]
 have a3:¬ (p:Int)+(k:Int)<V.ts.length:=by omega
 go_enter func108,ntmps108;go_wp2;go_quiet (fail);go_wp2;refine bodyPost_ret (v:=.agg #[.int .i64 0,.string ⟨#[]⟩,.int .i64 V.en]) (by simp[results,results108,go_sem]) rfl ⟨rfl,?_⟩;(go_light;repeat (first | with_reducible assumption | with_reducible exact Below.refl _ _ | (with_reducible refine Below.setCell ?_ ?_ _;rotate_left;(focus first | (simp;done) | (simp;omega) | omega)) | (with_reducible refine Below.alloc ?_ ?_ _;rotate_left;(focus first | (simp;done) | (simp;omega) | omega)) | with_reducible refine Below.drew ?_ | with_reducible refine Below.drewN ?_ _))
end
end Go.Proofs.YtphmpkpcamgjeaaGreatDoor
namespace Go.Proofs.YtphmpkpcamgjeaaGreatDoor
open Go.ChangeShapes Go.WideShapes Go.ChangeAt Go.RowKit Go.Proofs.Tryz
open Go.Maps
def flt (c ps:Int):List PanicEntry:=[{ v:=.iface 60 (.agg #[.int .i64 c,.int .i64 ps]),recovered:=false }]
def a3a (V:Env):Nat->List ByteArray->Bool
 | _,[]=>true
 | p,s::r=>sees V p s&&a3a V (p+1) r
theorem IM.wr {V:Env} {Mx:DataW Unit} {r B:Nat} {D:Nat->Prop} {w w':World} {p:Nat} {o:List Nd} (h:IM V Mx r B D w p o) {g:Nat} {ss:List ByteArray} (k:WR w g ss) (s:Sp 4 r w w'):WR w' g ss:=by
 have e:=(h.nb k.1 (by decide) (by decide)).heap s;exact⟨a4g k.1 e,fun i s hs=>(World.cell?_of_block (a:=⟨g,i,none⟩) e).trans (k.2 i s hs)⟩
theorem fldP (a c:Int) (t:ByteArray) (w:World):(Instr.field 50 (.agg #[.int .i64 a,.string t,.int .i64 c]) 2).run prog w=.ok (.int .i64 c) w:=by kernel_rfl
theorem fldK (a c:Int) (t:ByteArray) (w:World):(Instr.field 50 (.agg #[.int .i64 a,.string t,.int .i64 c]) 0).run prog w=.ok (.int .i64 a) w:=by kernel_rfl
section
variable {V : Env} {Mx : DataW Unit} {r B : Nat} {D : Nat -> Prop} {w : World} {p : Nat} {o : List Nd}
theorem a0v (hV:IV V Mx) (h:IM V Mx r B D w p o) :
 Calls prog 68 #[.pointer (some ⟨r,0,none⟩)] w fun e w'=>e=.returned (.int .i64 (V.pos p))/\Below w.heap.size w w':=by
 have hf:=fldP;go_enter func68,ntmps68;go_wp2_with fail;refine(a2Z hV h 0 (by omega)).mono ?_;rintro e w1 ⟨rfl,b1⟩;go_wp2;go_ret;exact⟨rfl,b1⟩
theorem a1u (hV:IV V Mx) (h:IM V Mx r B D w p o) :
 Calls prog 34 #[.pointer (some ⟨r,0,none⟩)] w fun e w'=>e=.returned (.agg #[.int .i64 3,.int .i64 (V.pos p)])/\Below w.heap.size w w':=by
 have h1:=h.alloc (.cells #[.int .i64 0,.int .i64 0] 60);go_enter func34,ntmps34;go_wp2_with fail;refine(a0v hV h1).mono ?_;rintro e w1 ⟨rfl,b1⟩;have hz:=b1.size
 have hy:w.heap.size+1<=w1.heap.size:=by simpa using hz
 have k0:∀ j,w1.cell? ⟨w.heap.size,j,none⟩=(w.alloc (.cells #[.int .i64 0,.int .i64 0] 60)).cell? ⟨w.heap.size,j,none⟩:=fun j=>b1.cell (p:=⟨w.heap.size,j,none⟩) (by simp);have k1:∀ j,w1.frozen? ⟨w.heap.size,j,none⟩=false:=fun j=>(b1.frozen (p:=⟨w.heap.size,j,none⟩) (by simp)).trans (by simp);have k2:w1.cell? ⟨w.heap.size,0,none⟩=some (.int .i64 0):=(k0 0).trans (by simp);have k3:w1.cell? ⟨w.heap.size,1,none⟩=some (.int .i64 0):=(k0 1).trans (by simp);have b2:Below w.heap.size w w1:=((Below.refl _ _).alloc (Nat.le_refl _) _).trans (b1.mono (by simp));go_wp2;refine bodyPost_ret (v:=.agg #[.int .i64 3,.int .i64 (V.pos p)]) (by simp[results,results34,go_sem,k2,k3]) rfl ⟨rfl,?_⟩
 (go_light;repeat (first | with_reducible assumption | with_reducible exact Below.refl _ _ | (with_reducible refine Below.setCell ?_ ?_ _;rotate_left;(focus first | (simp;done) | (simp;omega) | omega)) | (with_reducible refine Below.alloc ?_ ?_ _;rotate_left;(focus first | (simp;done) | (simp;omega) | omega)) | with_reducible refine Below.drew ?_ | with_reducible refine Below.drewN ?_ _))
end
end Go.Proofs.YtphmpkpcamgjeaaGreatDoor
namespace Go.Proofs.YtphmpkpcamgjeaaGreatDoor
open Go.ChangeShapes Go.WideShapes Go.ChangeAt Go.RowKit Go.Proofs.Tryz
open Go.Maps
theorem b1M (V:Env) (q i:Nat) (ms:List ByteArray) (s:ByteArray) (h:ms[i]?=some s):a3a V q (ms.drop i)=(sees V q s&&a3a V (q+1) (ms.drop (i+1))):=by
 obtain⟨hi,e⟩:=List.getElem?_eq_some_iff.1 h;rw[List.drop_eq_getElem_cons hi,e];rfl
section
variable {V : Env} {Mx : DataW Unit} {r B : Nat} {D : Nat -> Prop} {w : World} {p : Nat} {o : List Nd}
theorem b8C (hV:IV V Mx) (h:IM V Mx r B D w p o) (k:Nat) (hk:k<=10) (z:Int) (hz:z=(k:Int)) :
 Calls prog 108 #[.pointer (some ⟨r,0,none⟩),.int .i64 z] w fun e w'=>e=.returned (.agg #[.int .i64 (V.kd (p+k)),.string (V.tx (p+k)),.int .i64 (V.pos (p+k))])/\Below w.heap.size w w':=by
 subst hz;exact a2Z hV h k hk
theorem a4j (hV:IV V Mx) (h:IM V Mx r B D w p o) (k:Nat) (hk:k<=4) {g:Nat} {ms:List ByteArray} (hw:WR w g ms) (hm:ms.length<=5) :
 Calls prog 145 #[.pointer (some ⟨r,0,none⟩),.int .i64 (k:Int),.slice (some ⟨g,0,none⟩) ms.length ms.length] w fun e w'=>e=.returned (.bool (a3a V (p+k) ms))/\Below w.heap.size w w':=by
 have a3:(k:Int)<=4:=by omega
 have hgl:=a0x hw.1;generalize hn:ms.length=n at *;go_enter func145,ntmps145;go_wp2;go_loopw [12] (fun iv wr=>∃ i:Nat,i<=n/\iv=.int .i64 i/\Below w.heap.size w wr/\Hid (a3a V (p+k) ms=a3a V (p+k+i) (ms.drop i))) (fun iv _=>n-(intOf iv).toNat)
 case atStart=>exact⟨0,by omega,rfl,Below.refl _ _,(by simp[Hid])⟩
 case round=>
 obtain⟨i,hi,rfl,b0,HS⟩:=hrel;by_cases hlt:i<n
 .obtain⟨s,hs⟩:∃ s,ms[i]?=some s:=⟨ms[i]'(by omega),List.getElem?_eq_getElem (by omega)⟩;have c9:=(hw.below b0).2 i s hs
  have a2:(i:Int)<n:=by omega
  have a4:(i:Int)<=5:=by omega
  have h1:=h.below b0;go_wp2_with fail;refine(b8C hV h1 (k+i) (by omega) _ (by push_cast;rfl)).mono ?_;rintro e w2 ⟨rfl,b2⟩;have b3:Below w.heap.size w w2:=b0.trans (b2.mono b0.size);have a1:=b3.size;have HE:=hid (b1M V (p+k+i) i ms s hs)
  have e0:p+(k+i)=p+k+i:=by omega
  rw[e0];have hse:sees V (p+k+i) s=((V.kd (p+k+i)==1 || V.kd (p+k+i)==6)&&(V.tx (p+k+i)).toList==s.toList):=rfl;generalize V.kd (p+k+i)=kd at *;generalize V.tx (p+k+i)=tx at *;generalize V.pos (p+k+i)=ps at *;clear e0 c9;by_cases ht:tx.toList=s.toList
  .have htb:(tx.toList==s.toList)=true:=by simp[ht]
   by_cases h1k:kd=1
   .subst h1k;have a0:=hid (show a3a V (p+k) ms=a3a V (p+k+(i+1)) (ms.drop (i+1)) by rw[HS.out,HE.out,hse];simp[ht];rfl);clear hse HE HS;go_wp2;go_roundw
    case rel=>exact⟨i+1,by omega,by go_num,b3.alloc a1 _,a0⟩
    case measure=>simp[intOf];omega
   by_cases h6k:kd=6
   .subst h6k;have a0:=hid (show a3a V (p+k) ms=a3a V (p+k+(i+1)) (ms.drop (i+1)) by rw[HS.out,HE.out,hse];simp[ht];rfl);clear hse HE HS;go_wp2;go_roundw
    case rel=>exact⟨i+1,by omega,by go_num,b3.alloc a1 _,a0⟩
    case measure=>simp[intOf];omega
   have g1:(kd==1)=false:=by simpa using h1k
   have g6:(kd==6)=false:=by simpa using h6k
   have a0:=hid (show a3a V (p+k) ms=false by rw[HS.out,HE.out,hse];simp[g1,g6]);clear hse HE HS;go_wp2;go_ret;exact⟨by rw[a0.out];rfl,b3.alloc a1 _⟩
  have htb:(tx.toList==s.toList)=false:=by simpa using ht
  by_cases h1k:kd=1
  .subst h1k;have a0:=hid (show a3a V (p+k) ms=false by rw[HS.out,HE.out,hse];simp[htb]);clear hse HE HS;go_wp2;go_ret;exact⟨by rw[a0.out];rfl,b3.alloc a1 _⟩
  have g1:(kd==1)=false:=by simpa using h1k
  by_cases h6k:kd=6
  .subst h6k;have a0:=hid (show a3a V (p+k) ms=false by rw[HS.out,HE.out,hse];simp[htb]);clear hse HE HS;go_wp2;go_ret;exact⟨by rw[a0.out];rfl,b3.alloc a1 _⟩
  have g6:(kd==6)=false:=by simpa using h6k
  have a0:=hid (show a3a V (p+k) ms=false by rw[HS.out,HE.out,hse];simp[g1,g6]);clear hse HE HS;go_wp2;go_ret;exact⟨by rw[a0.out];rfl,b3.alloc a1 _⟩
 have a2:¬ (i:Int)<n:=by omega
 have hin:i=n:=by omega
 subst hin;have HF:=hid (show a3a V (p+k) ms=true by rw[HS.out,List.drop_of_length_le (by omega)];rfl);go_wp2;go_ret;exact⟨by rw[HF.out];rfl,b0⟩
end
end Go.Proofs.YtphmpkpcamgjeaaGreatDoor
namespace Go.Proofs.YtphmpkpcamgjeaaGreatDoor
open Go.ChangeShapes Go.WideShapes Go.ChangeAt Go.RowKit Go.Proofs.Tryz
open Go.Maps
def IPost {α:Type} (V:Env) (Mx:DataW Unit) (r B:Nat) (D:Nat->Prop) (val:α->Value) (F:R α) (w:World) (e:Ending) (w':World):Prop:=match F with
 | .ok a q o=>e=.returned (val a)/\IM V Mx r B D w' q o/\Sp 4 r w w'
 | .bad q=>e=.panicked (flt 3 (V.pos q))/\Below B w w'
theorem IPost.ok {α:Type} {V:Env} {Mx:DataW Unit} {r B:Nat} {D:Nat->Prop} {val:α->Value} {F:R α} {w:World} {e:Ending} {w':World} {a:α} {q:Nat} {o:List Nd} (hF:F=.ok a q o) (h1:e=.returned (val a)) (h2:IM V Mx r B D w' q o) (h3:Sp 4 r w w'):IPost V Mx r B D val F w e w':=by
 subst hF;exact⟨h1,h2,h3⟩
theorem IPost.bad {α:Type} {V:Env} {Mx:DataW Unit} {r B:Nat} {D:Nat->Prop} {val:α->Value} {F:R α} {w:World} {e:Ending} {w':World} {q:Nat} (hF:F=.bad q) (h1:e=.panicked (flt 3 (V.pos q))) (h2:Below B w w'):IPost V Mx r B D val F w e w':=by
 subst hF;exact⟨h1,h2⟩
abbrev vInt (k:Int):Value:=.int .i64 k
abbrev vStr (s:ByteArray):Value:=.string s
abbrev b7l (_:Unit):Value:=.tuple #[]
def chN:Option Nat->Int
 | none=>0
 | some i=>(i:Int)+1
def chS:Option Nat->Nat
 | none=>0
 | some _=>1
def a1q (V:Env):List ByteArray->M Unit
 | []=>fun p o=>.ok () p o
 | s::r=>fun p o=>(must V s p o).bind fun _ p o=>a1q V r p o
section
variable {V : Env} {Mx : DataW Unit} {r B : Nat} {D : Nat -> Prop} {w : World} {p : Nat} {o : List Nd}
theorem IM.low (h:IM V Mx r B D w p o) {w':World} (s:Sp 4 r w w'):Below B w w':=by
 refine⟨s.os,s.tape,s.output,s.size,fun g hg=>s.block g (Nat.lt_of_lt_of_le hg h.hb) (fun e=>by have:=h.br;omega) (fun e=>?_)⟩;obtain⟨tv,mb,ov,xs,ks,h1,_,_,h3,_⟩:=h.ex;unfold ob at e;rw[(cell_of h1 (j:=4)).1] at e;have:=a2Y h3 (by simpa using e);omega
theorem IM.lowB (h:IM V Mx r B D w p o) {w':World} (b:Below w.heap.size w w'):Below B w w':=b.mono h.hb
theorem IM.spB (h:IM V Mx r B D w p o) {w':World} (b:Below w.heap.size w w'):Sp 4 r w w':=h.sp.below b
theorem a5u (hV:IV V Mx) (h:IM V Mx r B D w p o) (ms:List ByteArray) (hm:ms.length<=5) :
 Calls prog 110 #[.pointer (some ⟨r,0,none⟩),.slice (some ⟨w.heap.size,0,none⟩) ms.length ms.length] (w.alloc (.cells (ms.map Value.string).toArray 9)) fun e w'=>e=.returned (.bool (a3a V p ms))/\Below w.heap.size w w':=by
 have h1:=h.alloc (.cells (ms.map Value.string).toArray 9);have hw:=WR.new w ms;generalize hW:w.alloc (.cells (ms.map Value.string).toArray 9)=W at *;have b0:Below w.heap.size w W:=hW ▸ below_alloc _ _;clear hW;go_enter func110,ntmps110;go_wp2_with fail;refine(a4j hV h1 0 (by omega) hw hm).mono ?_;rintro e w1 ⟨rfl,b1⟩;go_wp2;go_ret;exact⟨rfl,b0.trans (b1.mono b0.size)⟩
theorem a7s (hV:IV V Mx) (h:IM V Mx r B D w p o) (s:ByteArray) :
    Calls prog 110 #[.pointer (some ⟨r,0,none⟩),.slice (some ⟨w.heap.size,0,none⟩) 1 1] (w.alloc (.cells #[.string s] 9)) fun e w'=>e=.returned (.bool (sees V p s))/\Below w.heap.size w w':=
  (a5u hV h [s] (by simp)).mono (fun e w' ⟨h1,h2⟩=>⟨by rw[h1];simp[a3a],h2⟩)
theorem b3n (hV:IV V Mx) (h:IM V Mx r B D w p o) (s t:ByteArray) :
    Calls prog 110 #[.pointer (some ⟨r,0,none⟩),.slice (some ⟨w.heap.size,0,none⟩) 2 2] (w.alloc (.cells #[.string s,.string t] 9)) fun e w'=>e=.returned (.bool (sees V p s&&sees V (p+1) t))/\Below w.heap.size w w':=
  (a5u hV h [s,t] (by simp)).mono (fun e w' ⟨h1,h2⟩=>⟨by rw[h1];simp[a3a],h2⟩)
theorem b3o (hV:IV V Mx) (h:IM V Mx r B D w p o) (s t u:ByteArray) :
    Calls prog 110 #[.pointer (some ⟨r,0,none⟩),.slice (some ⟨w.heap.size,0,none⟩) 3 3] (w.alloc (.cells #[.string s,.string t,.string u] 9)) fun e w'=>e=.returned (.bool (sees V p s&&(sees V (p+1) t&&sees V (p+1+1) u)))/\Below w.heap.size w w':=
  (a5u hV h [s,t,u] (by simp)).mono (fun e w' ⟨h1,h2⟩=>⟨by rw[h1];simp[a3a],h2⟩)
theorem b1N (hV:IV V Mx) (h:IM V Mx r B D w p o) (s t:ByteArray) :
 Calls prog 145 #[.pointer (some ⟨r,0,none⟩),.int .i64 1,.slice (some ⟨w.heap.size,0,none⟩) 2 2] (w.alloc (.cells #[.string s,.string t] 9)) fun e w'=>e=.returned (.bool (sees V (p+1) s&&sees V (p+2) t))/\Below w.heap.size w w':=by
 have b0:=below_alloc w (.cells #[.string s,.string t] 9);refine(a4j hV (h.alloc (.cells #[.string s,.string t] 9)) 1 (by omega) (WR.new w [s,t]) (by simp)).mono ?_;rintro e w' ⟨h1,h2⟩;exact⟨by rw[h1];simp[a3a],b0.trans (h2.mono b0.size)⟩
end
theorem bd {α : Type} {F : R α} {q B : Nat} {w w' : World} {G : Prop} (a : F = .bad q) (b : Below B w w') (h : F = .bad q -> Below B w w' -> G := by intro a b; replace a := hid a; go_wp2; exact ⟨rfl, IPost.bad a.out rfl b⟩) : G := h a b
theorem okI {α : Type} {V : Env} {Mx : DataW Unit} {r B : Nat} {D : Nat -> Prop} {F : R α} {w w' : World} {a : α} {q : Nat} {o : List Nd} {G : Prop} (l : F = .ok a q o) (h : IM V Mx r B D w' q o) (s : Sp 4 r w w') (k : F = .ok a q o -> IM V Mx r B D w' q o -> Sp 4 r w w' -> G := by intro l h s; replace l := hid l; go_wp2; go_ret; exact IPost.ok l.out (by first | with_reducible rfl | rfl | (simp; done)) h s) : G := k l h s
theorem IPost.cs {α : Type} {V : Env} {Mx : DataW Unit} {r B : Nat} {D : Nat -> Prop} {val : α -> Value} {F : R α} {w : World} {e : Ending} {w' : World} (h : IPost V Mx r B D val F w e w') : (∃ t, F = .bad t /\ e = .panicked (flt 3 (V.pos t)) /\ Below B w w') \/ ∃ a q o, F = .ok a q o /\ e = .returned (val a) /\ IM V Mx r B D w' q o /\ Sp 4 r w w' := by
  cases F with
  | bad t => exact .inl ⟨t, rfl, h⟩
  | ok a q o => exact .inr ⟨a, q, o, rfl, h⟩
theorem IM.ol {V : Env} {Mx : DataW Unit} {r B : Nat} {D : Nat -> Prop} {w : World} {p : Nat} {o : List Nd} {t : Nd} (h : IM V Mx r B D w p (o ++ [t])) : (o ++ [t]).length = o.length + 1 := by simp
end Go.Proofs.YtphmpkpcamgjeaaGreatDoor
