import Derived.Test.YtphmpkpcamgjeaaGreatDoorXAA
import Derived.Test.YtphmpkpcamgjeaaGreatDoorXBM
import Derived.Test.YtphmpkpcamgjeaaGreatDoorXBK
set_option linter.unusedVariables false
set_option linter.unusedSimpArgs false
set_option maxRecDepth 100000
set_option maxHeartbeats 16000000
namespace Go.Proofs.YtphmpkpcamgjeaaGreatDoor
open Go.ChangeShapes Go.WideShapes Go.ChangeAt Go.RowKit Go.Proofs.Tryz
theorem a0f {V:Env} {p:Nat} {s t:ByteArray} (h:sees V p s=true) (hn:s.data.toList≠t.data.toList):sees V p t=false:=by
 cases g:sees V p t with
 | false=>rfl
 | true=>
 exact absurd (by have z:=b1c h g;rw[ByteArray.toList_eq,ByteArray.toList_eq] at z;exact z) hn
def NoS (V:Env) (p:Nat):Prop:=sees V p a0Q=false/\sees V p a0S=false/\sees V p a0V=false/\sees V p a1a=false
section
variable {V : Env} {E Q G : M Int} {p : Nat}
theorem b2e (h:sees V p a0Q=true) (o:List Nd):stmF V E Q G p o=a2S V E Q (V.pos p) (p+1) o:=by
 simp only[stmF,h,if_true]
 try rfl
theorem b2f (h:sees V p a0S=true) (o:List Nd):stmF V E Q G p o=a2T V E (V.pos p) (p+1) o:=by
 simp only[stmF,h,if_true,a0f h (t:=a0Q) (by decide),Bool.false_eq_true,if_false]
 try rfl
theorem b2g (h:sees V p a0V=true) (o:List Nd):stmF V E Q G p o=a3v V E (V.pos p) (p+1) o:=by
 simp only[stmF,h,if_true,a0f h (t:=a0Q) (by decide),Bool.false_eq_true,if_false,a0f h (t:=a0S) (by decide),Bool.false_eq_true,if_false]
 try rfl
theorem b2h (h:sees V p a1a=true) (o:List Nd):stmF V E Q G p o=a2U V E G (V.pos p) (p+1) o:=by
 simp only[stmF,h,if_true,a0f h (t:=a0Q) (by decide),Bool.false_eq_true,if_false,a0f h (t:=a0S) (by decide),Bool.false_eq_true,if_false,a0f h (t:=a0V) (by decide),Bool.false_eq_true,if_false]
 try rfl
theorem b5E (h:sees V p a2L=true) (o:List Nd):stmF V E Q G p o=b3j V (V.pos p) (p+1) o:=by
 simp only[stmF,h,if_true,a0f h (t:=a0Q) (by decide),Bool.false_eq_true,if_false,a0f h (t:=a0S) (by decide),Bool.false_eq_true,if_false,a0f h (t:=a0V) (by decide),Bool.false_eq_true,if_false,a0f h (t:=a1a) (by decide),Bool.false_eq_true,if_false]
 try rfl
theorem b3F (h:sees V p a2a=true) (o:List Nd):stmF V E Q G p o=a4f V (V.pos p) (p+1) o:=by
 simp only[stmF,h,if_true,a0f h (t:=a0Q) (by decide),Bool.false_eq_true,if_false,a0f h (t:=a0S) (by decide),Bool.false_eq_true,if_false,a0f h (t:=a0V) (by decide),Bool.false_eq_true,if_false,a0f h (t:=a1a) (by decide),Bool.false_eq_true,if_false,a0f h (t:=a2L) (by decide),Bool.false_eq_true,if_false]
 try rfl
theorem b2i (h:sees V p a1C=true) (o:List Nd):stmF V E Q G p o=lay { op:=59,pos:=V.pos p } (p+1) o:=by
 simp only[stmF,h,if_true,a0f h (t:=a0Q) (by decide),Bool.false_eq_true,if_false,a0f h (t:=a0S) (by decide),Bool.false_eq_true,if_false,a0f h (t:=a0V) (by decide),Bool.false_eq_true,if_false,a0f h (t:=a1a) (by decide),Bool.false_eq_true,if_false,a0f h (t:=a2L) (by decide),Bool.false_eq_true,if_false,a0f h (t:=a2a) (by decide),Bool.false_eq_true,if_false]
 try rfl
theorem a7L (h:sees V p a1b=true) (o:List Nd):stmF V E Q G p o=a8q V (V.pos p) (p+1) o:=by
 simp only[stmF,h,if_true,a0f h (t:=a0Q) (by decide),Bool.false_eq_true,if_false,a0f h (t:=a0S) (by decide),Bool.false_eq_true,if_false,a0f h (t:=a0V) (by decide),Bool.false_eq_true,if_false,a0f h (t:=a1a) (by decide),Bool.false_eq_true,if_false,a0f h (t:=a2L) (by decide),Bool.false_eq_true,if_false,a0f h (t:=a2a) (by decide),Bool.false_eq_true,if_false,a0f h (t:=a1C) (by decide),Bool.false_eq_true,if_false]
 try rfl
theorem a6H (h:sees V p a0Y=true) (o:List Nd):stmF V E Q G p o=nmF V 61 (V.pos p) (p+1) o:=by
 simp only[stmF,h,if_true,a0f h (t:=a0Q) (by decide),Bool.false_eq_true,if_false,a0f h (t:=a0S) (by decide),Bool.false_eq_true,if_false,a0f h (t:=a0V) (by decide),Bool.false_eq_true,if_false,a0f h (t:=a1a) (by decide),Bool.false_eq_true,if_false,a0f h (t:=a2L) (by decide),Bool.false_eq_true,if_false,a0f h (t:=a2a) (by decide),Bool.false_eq_true,if_false,a0f h (t:=a1C) (by decide),Bool.false_eq_true,if_false,a0f h (t:=a1b) (by decide),Bool.false_eq_true,if_false]
 try rfl
theorem a8G (h:sees V p a1O=true) (o:List Nd):stmF V E Q G p o=nmF V 62 (V.pos p) (p+1) o:=by
 simp only[stmF,h,if_true,a0f h (t:=a0Q) (by decide),Bool.false_eq_true,if_false,a0f h (t:=a0S) (by decide),Bool.false_eq_true,if_false,a0f h (t:=a0V) (by decide),Bool.false_eq_true,if_false,a0f h (t:=a1a) (by decide),Bool.false_eq_true,if_false,a0f h (t:=a2L) (by decide),Bool.false_eq_true,if_false,a0f h (t:=a2a) (by decide),Bool.false_eq_true,if_false,a0f h (t:=a1C) (by decide),Bool.false_eq_true,if_false,a0f h (t:=a1b) (by decide),Bool.false_eq_true,if_false,a0f h (t:=a0Y) (by decide),Bool.false_eq_true,if_false]
 try rfl
theorem a8H (h:sees V p a2j=true) (o:List Nd):stmF V E Q G p o=(fun o=>(Q (p+1) o).bind fun k q o=>lay { op:=63,kids:=[k],pos:=V.pos p } q o) o:=by
 simp only[stmF,h,if_true,a0f h (t:=a0Q) (by decide),Bool.false_eq_true,if_false,a0f h (t:=a0S) (by decide),Bool.false_eq_true,if_false,a0f h (t:=a0V) (by decide),Bool.false_eq_true,if_false,a0f h (t:=a1a) (by decide),Bool.false_eq_true,if_false,a0f h (t:=a2L) (by decide),Bool.false_eq_true,if_false,a0f h (t:=a2a) (by decide),Bool.false_eq_true,if_false,a0f h (t:=a1C) (by decide),Bool.false_eq_true,if_false,a0f h (t:=a1b) (by decide),Bool.false_eq_true,if_false,a0f h (t:=a0Y) (by decide),Bool.false_eq_true,if_false,a0f h (t:=a1O) (by decide),Bool.false_eq_true,if_false]
 try rfl
theorem a5T (h:sees V p a1r=true) (o:List Nd):stmF V E Q G p o=lay { op:=64,pos:=V.pos p } (p+1) o:=by
 simp only[stmF,h,if_true,a0f h (t:=a0Q) (by decide),Bool.false_eq_true,if_false,a0f h (t:=a0S) (by decide),Bool.false_eq_true,if_false,a0f h (t:=a0V) (by decide),Bool.false_eq_true,if_false,a0f h (t:=a1a) (by decide),Bool.false_eq_true,if_false,a0f h (t:=a2L) (by decide),Bool.false_eq_true,if_false,a0f h (t:=a2a) (by decide),Bool.false_eq_true,if_false,a0f h (t:=a1C) (by decide),Bool.false_eq_true,if_false,a0f h (t:=a1b) (by decide),Bool.false_eq_true,if_false,a0f h (t:=a0Y) (by decide),Bool.false_eq_true,if_false,a0f h (t:=a1O) (by decide),Bool.false_eq_true,if_false,a0f h (t:=a2j) (by decide),Bool.false_eq_true,if_false]
 try rfl
theorem a7M (h:sees V p a0l=true) (o:List Nd):stmF V E Q G p o=Q p o:=by
 simp only[stmF,a0f h (t:=a0Q) (by decide),a0f h (t:=a0S) (by decide),a0f h (t:=a0V) (by decide),a0f h (t:=a1a) (by decide),a0f h (t:=a2L) (by decide),a0f h (t:=a2a) (by decide),a0f h (t:=a1C) (by decide),a0f h (t:=a1b) (by decide),a0f h (t:=a0Y) (by decide),a0f h (t:=a1O) (by decide),a0f h (t:=a2j) (by decide),a0f h (t:=a1r) (by decide),Bool.false_eq_true,if_false]
theorem b5F (h:sees V p g_lp=true) (o:List Nd):stmF V E Q G p o=Q p o:=by
 simp only[stmF,a0f h (t:=a0Q) (by decide),a0f h (t:=a0S) (by decide),a0f h (t:=a0V) (by decide),a0f h (t:=a1a) (by decide),a0f h (t:=a2L) (by decide),a0f h (t:=a2a) (by decide),a0f h (t:=a1C) (by decide),a0f h (t:=a1b) (by decide),a0f h (t:=a0Y) (by decide),a0f h (t:=a1O) (by decide),a0f h (t:=a2j) (by decide),a0f h (t:=a1r) (by decide),Bool.false_eq_true,if_false]
theorem b5G (hinsert:sees V p a0Q=false) (hupdate:sees V p a0S=false) (hdelete:sees V p a0V=false) (hcreate:sees V p a1a=false) (hdrop:sees V p a2L=false) (hbegin:sees V p a2a=false) (hcommit:sees V p a1C=false) (hrollback:sees V p a1b=false) (hsavepoint:sees V p a0Y=false) (hrelease:sees V p a1O=false) (hexplain:sees V p a2j=false) (hcheckpoint:sees V p a1r=false) (o:List Nd):stmF V E Q G p o=Q p o:=by
 simp only[stmF,hinsert,hupdate,hdelete,hcreate,hdrop,hbegin,hcommit,hrollback,hsavepoint,hrelease,hexplain,hcheckpoint,Bool.false_eq_true,if_false]
end
def b9a (V:Env) (src:ByteArray) (r B:Nat) (D:Nat->Prop) (E Q G:M Int) (w:World) (p:Nat) (x:Option (List Nd)) (m:Nat) (e:Ending) (w':World):Prop:=
  (∃ a q y m',e=.returned (.int .i64 a)/\0<=a/\SM V src r B D w' q y m'/\Sp 3 r w w'/\Res V 400 0 (stmF V E Q G p) p x m q y m' a) \/
  (e=.returned (.int .i64 (-1))/\SM V src r B D w' p x m/\Sp 3 r w w'/\∀ o,x=some o->sees V p a0l=false/\sees V p g_lp=false/\NoS V p)
theorem b3G {V:Env} {src:ByteArray} {n:Nat} {E Q G:M Int} (hV:VO V src) (hE:SV V) (hA:a0w V src 87 10 n E) (hQ:SRule0 V src 24 240 n Q) (hL:a0w V src 88 20 n (a2u V E G)) {r B:Nat} {D:Nat->Prop} {w:World} {p:Nat} {x:Option (List Nd)} {m:Nat} (h:SM V src r B D w p x m) (hn:∀ o,x=some o->V.ts.length-p<n) (hp:pot V p x m+400<=4000000) :
 Calls prog 22 #[.pointer (some ⟨r,0,none⟩)] w fun e w'=>b9a V src r B D E Q G w p x m e w':=by
 have hT:=hV.n;have hle:=h.le;have l0:=Lp.refl V (stmF V E Q G p) p x m;have j7:=l0.le;go_enter func22,ntmps22;go_wp2_with fail;refine(a0C hV h).mono ?_;rintro e w1 ⟨rfl,b1⟩;have h1:=h.below b1;have s1:=h.sp.below b1;go_wp2_with fail;refine(a0G hV h1 a0l).mono ?_;rintro e w2 ⟨c2,rfl,t2,x2⟩;replace x2:=x2.symm;subst x2
 cases c2 with
 | true=>
  obtain⟨o2,e2,g2,j8⟩:=t2.yes;have a0:=l0.congr (fun o _=>a7M g2 o);have a5:=a0.le;go_wp2_with fail;refine(hQ h1 (a0.fuel hn) (by omega)).mono ?_;rintro e a7 ⟨hge,a8,a9,b0,b2,rfl,a1,a2,a3⟩;have a4:=s1.trans a2;have HR:=hid (a0.last a3);go_wp2;go_ret;exact .inl ⟨_,_,_,_,rfl,hge,a1,a4,HR.out.weak (by omega) (by omega)⟩
 | false=>
 go_wp2_with fail;refine(a0G hV h1 g_lp).mono ?_;rintro e w3 ⟨c3,rfl,t3,x3⟩;replace x3:=x3.symm;subst x3
 cases c3 with
 | true=>
  obtain⟨o3,e3,g3,j9⟩:=t3.yes;have a0:=l0.congr (fun o _=>b5F g3 o);have a5:=a0.le;go_wp2_with fail;refine(hQ h1 (a0.fuel hn) (by omega)).mono ?_;rintro e a7 ⟨hge,a8,a9,b0,b2,rfl,a1,a2,a3⟩;have a4:=s1.trans a2;have HR:=hid (a0.last a3);go_wp2;go_ret;exact .inl ⟨_,_,_,_,rfl,hge,a1,a4,HR.out.weak (by omega) (by omega)⟩
 | false=>
 go_wp2_with fail;refine(a0b hV h1 a0Q).mono ?_;rintro e w4 ⟨c4,rfl,t4,h4,z4⟩
 cases c4 with
 | true=>
  replace h4:SM V src r B _ w4 (p+1) x m:=h4;have s4:=s1.trans z4;obtain⟨o4,e4,g4,c1⟩:=t4.yes;have i3:=h4.le;have a0:=l0.step e4 c1 (fun o _=>b2e g4 o);have a5:=a0.le;have hps:=a0j (m:=m) e4 c1;have hnt:∀ o,x=some o->V.ts.length-(p+1)<n:=fun o e=>Nat.lt_of_le_of_lt (by omega) (hn o e);go_wp2_with fail;refine(b2d hV hE hA hQ.r (V.pos p) h4 hnt (by omega)).mono ?_;rintro e a7 ⟨hge,a8,a9,b0,b2,rfl,a1,a2,a3⟩;have a4:=s4.trans a2;have HR:=hid (a0.lastS e4 a3);go_wp2;go_ret;exact .inl ⟨_,_,_,_,rfl,hge,a1,a4,HR.out.weak (by omega) (by omega)⟩
 | false=>
 replace h4:SM V src r B _ w4 p x m:=h4;have s4:=s1.trans z4;go_wp2_with fail;refine(a0b hV h4 a0S).mono ?_;rintro e w5 ⟨c5,rfl,t5,h5,z5⟩
 cases c5 with
 | true=>
  replace h5:SM V src r B _ w5 (p+1) x m:=h5;have s5:=s4.trans z5;obtain⟨o5,e5,g5,c8⟩:=t5.yes;have i4:=h5.le;have a0:=l0.step e5 c8 (fun o _=>b2f g5 o);have a5:=a0.le;have hps:=a0j (m:=m) e5 c8;have hnt:∀ o,x=some o->V.ts.length-(p+1)<n:=fun o e=>Nat.lt_of_le_of_lt (by omega) (hn o e);go_wp2_with fail;refine(b2c hV hE hA (V.pos p) h5 hnt (by omega)).mono ?_;rintro e a7 ⟨hge,a8,a9,b0,b2,rfl,a1,a2,a3⟩;have a4:=s5.trans a2;have HR:=hid (a0.lastS e5 a3);go_wp2;go_ret;exact .inl ⟨_,_,_,_,rfl,hge,a1,a4,HR.out.weak (by omega) (by omega)⟩
 | false=>
 replace h5:SM V src r B _ w5 p x m:=h5;have s5:=s4.trans z5;go_wp2_with fail;refine(a0b hV h5 a0V).mono ?_;rintro e w6 ⟨c6,rfl,t6,h6,z6⟩
 cases c6 with
 | false=>
  replace h6:SM V src r B _ w6 p x m:=h6;have s6:=s5.trans z6;go_wp2_with fail;refine(a0b hV h6 a1a).mono ?_;rintro e w7 ⟨c7,rfl,t7,h7,z7⟩
  cases c7 with
  | false=>
   replace h7:SM V src r B _ w7 p x m:=h7;have s7:=s6.trans z7;go_wp2;go_ret;exact .inr ⟨rfl,h7,s7,fun o e=>⟨t2.no e,t3.no e,t4.no e,t5.no e,t6.no e,t7.no e⟩⟩
  | true=>
  replace h7:SM V src r B _ w7 (p+1) x m:=h7;have s7:=s6.trans z7;obtain⟨o7,e7,g7,c9⟩:=t7.yes;have i5:=h7.le;have a0:=l0.step e7 c9 (fun o _=>b2h g7 o);have a5:=a0.le;have hps:=a0j (m:=m) e7 c9;have hnt:∀ o,x=some o->V.ts.length-(p+1)<n:=fun o e=>Nat.lt_of_le_of_lt (by omega) (hn o e);go_wp2_with fail;refine(b2b hV hE hL (V.pos p) h7 hnt (by omega)).mono ?_;rintro e a7 ⟨hge,a8,a9,b0,b2,rfl,a1,a2,a3⟩;have a4:=s7.trans a2;have HR:=hid (a0.lastS e7 a3);go_wp2;go_ret;exact .inl ⟨_,_,_,_,rfl,hge,a1,a4,HR.out.weak (by omega) (by omega)⟩
 | true=>
 replace h6:SM V src r B _ w6 (p+1) x m:=h6;have s6:=s5.trans z6;obtain⟨o6,e6,g6,e0⟩:=t6.yes;have i6:=h6.le;have a0:=l0.step e6 e0 (fun o _=>b2g g6 o);have a5:=a0.le;have hps:=a0j (m:=m) e6 e0;have hnt:∀ o,x=some o->V.ts.length-(p+1)<n:=fun o e=>Nat.lt_of_le_of_lt (by omega) (hn o e);have e1:=a0.rest;have i7:=e1.le;go_wp2_with fail;refine(a0i hV h6 a2z).mono ?_;rintro e k0 ⟨k1,k2,rfl,f5,f6,b4⟩;have f7:=s6.trans f6;have i8:=b4.le;have e8:=e1.bind b4;have i9:=e8.le;have f1:=b4.fuel hnt;go_wp2_with fail;refine(name_any hV hE f5).mono ?_;rintro e k3 ⟨k4,k5,b5,rfl,f8,f9,b6⟩;have e9:=f7.trans f9;have j0:=b6.le;have b7:=e8.bind b6;have j1:=b7.le;have b9:=b6.fuel f1
 have b3:=NV.new (b:=w.heap.size) f8 (by have:=e9.size;omega) { op:=48,name:=b5,pos:=V.pos p };have g0:=e9.alloc (.cells (ndA { op:=48,name:=b5,pos:=V.pos p } (.slice none 0 0)) 42);obtain⟨d0,d1,d2,d3,d4,d5,d6,d7,d8,d9⟩:=b3.cells;have dz:=b3.fz;go_wp2_with fail;refine(a5E hV hA b3.pk g0 (by first | (simp;done) | (simp;omega) | omega) b9 (fun o e=>by have:=((a0.compS e6 b7).ok e).1;omega)).mono ?_;rintro e k6 ⟨f2,f3,c0,g1,g8,g9,rfl,h0,h2,f4,b8,i2⟩;clear d0 d1 d2 d3 d4 d5 d6 d7 d8 d9 dz;obtain⟨a6,j2,j3⟩:=b3.row h0 f4;have h3:=h2.set (j:=8) (.slice f2 c0.length f3) a6.lo;have j4:=b8.le;have f0:=b7.bind b8;have j5:=f0.le;have j6:=b8.fuel b9;obtain⟨d0,d1,d2,d3,d4,d5,d6,d7,d8,d9⟩:=a6.cells;have dz:=a6.fz;go_wp2_with fail
 refine(a0g a6.pk.out (by have:=a0r (V:=V) (p:=g1) (x:=g8) (m:=g9);omega) { op:=48,name:=b5,kids:=c0,pos:=V.pos p } _ a6.pk.kids (fun _=>a6.pk.far (fun g hg=>h.dl g hg))).mono ?_;rintro e k7 ⟨rfl,h8,h9,i0⟩;have i1:=h3.trans h9;have HR:=hid (f0.last i0);replace HR:=hid (a0.lastS e6 HR.out);go_wp2;go_ret;exact .inl ⟨_,_,_,_,rfl,Int.natCast_nonneg _,h8,i1,HR.out.weak (by omega) (by omega)⟩
theorem b5H (V:Env) (ps:Int) (q:Nat) (o:List Nd):a4f V ps q o=if sees V q a2w then lay { op:=58,n:=1,pos:=ps } (q+1) o else if sees V q a1l then lay { op:=58,n:=2,pos:=ps } (q+1) o else lay { op:=58,pos:=ps } q o:=by
 unfold a4f pick pick pick
 cases sees V q a2w with
 | true=>rfl
 | false=>
 cases sees V q a1l with
 | true=>rfl
 | false=>
 rfl
theorem a6I {V:Env} {src:ByteArray} {n:Nat} {E Q G:M Int} (hV:VO V src) (hE:SV V) (hA:a0w V src 87 10 n E) (hQ:SRule0 V src 24 240 n Q) (hL:a0w V src 88 20 n (a2u V E G)) (hQb:∀ p o,sees V p a0l=false->sees V p g_lp=false->Q p o=.bad p):a0w V src 10 500 n (stmF V E Q G):=fun {r B D w p x m} h hn hp=>by
 have hT:=hV.n;have hle:=h.le;have l0:=Lp.refl V ((stmF V E Q G) p) p x m;have v3:=l0.le;go_enter func10,ntmps10;go_wp2_with fail;refine(a0C hV h).mono ?_;rintro e w1 ⟨rfl,b1⟩;have h1:=h.below b1;have s1:=h.sp.below b1;go_wp2_with fail;refine(b3G hV hE hA hQ hL h1 hn (by omega)).mono ?_;rintro e w2 hh;rcases hh with⟨a,q2,y2,m2,rfl,hge,h2,z2,r2⟩ | ⟨rfl,h2,z2,hno⟩
 .have s2:=s1.trans z2
  have t2:decide (0<=a)=true:=by simpa using hge
  have HR:=hid r2;go_wp2;go_ret;exact⟨_,_,_,_,rfl,h2,s2,HR.out.weak (by omega) (by omega)⟩
 have s2:=s1.trans z2;have f3:=NV.new (b:=w.heap.size) h2 (by have:=s2.size;omega) { op:=0,pos:=V.pos p };have s3:=s2.alloc (.cells (ndA { op:=0,pos:=V.pos p } (.slice none 0 0)) 42);go_wp2_with fail;refine(a0b hV f3.pk.sm a2a).mono ?_;rintro e w4 ⟨c4,rfl,t4,h4,z4⟩
 cases c4 with
 | true=>
  replace h4:SM V src r B _ w4 (p+1) x m:=h4;have f4:=f3.step h4 z4;have s4:=s3.trans z4;obtain⟨o4,e4,g4,m3⟩:=t4.yes;have t3:=h4.le;have a7:=l0.step e4 m3 (fun o _=>b3F g4 o);have h3:=a7.le;have hps:=a0j (m:=m) e4 m3;have hnt:∀ o,x=some o->V.ts.length-(p+1)<n:=fun o e=>Nat.lt_of_le_of_lt (by omega) (hn o e);obtain⟨d0,d1,d2,d3,d4,d5,d6,d7,d8,d9⟩:=f4.cells;have dz:=f4.fz;go_wp2_with fail;clear d0 d1 d2 d3 d4 d5 d6 d7 d8 d9 dz;have a8:=f4.set 0 (.int .i64 58) { op:=58,pos:=V.pos p } rfl;have b6:=s4.set (j:=0) (.int .i64 58) f4.lo;have b2:=a7.rest;have i0:=b2.le;have b4:=b2.congr (fun o _=>b5H V (V.pos p) (p+1) o);have i1:=b4.le;go_wp2_with fail;refine(a0b hV a8.pk.sm a2w).mono ?_;rintro e j0 ⟨n3,rfl,j8,c2,e2⟩
  cases n3 with
  | true=>
   replace c2:SM V src r B _ j0 ((p+1)+1) x m:=c2;have a0:=a8.step c2 e2;have b7:=b6.trans e2;obtain⟨u0,n4,u1,r5⟩:=j8.yes;have e3:=b4.tkT j8;have j6:=e3.le;have r3:=c2.le;have k9:∀ o,x=some o->V.ts.length-((p+1)+1)<_:=fun o e=>Nat.lt_of_le_of_lt (by omega) (hnt o e);obtain⟨d0,d1,d2,d3,d4,d5,d6,d7,d8,d9⟩:=a0.cells;have dz:=a0.fz;go_wp2_with fail;clear d0 d1 d2 d3 d4 d5 d6 d7 d8 d9 dz;have b0:=a0.set 3 (.int .i64 1) { op:=58,n:=1,pos:=V.pos p } rfl;have b8:=b7.set (j:=3) (.int .i64 1) a0.lo;obtain⟨d0,d1,d2,d3,d4,d5,d6,d7,d8,d9⟩:=b0.cells;have dz:=b0.fz;go_wp2_with fail
   refine(a0g b0.pk.out (by have:=a0r (V:=V) (p:=((p+1)+1)) (x:=x) (m:=m);omega) { op:=58,n:=1,pos:=V.pos p } _ b0.pk.kids (fun _=>b0.pk.far (fun g hg=>h.dl g hg))).mono ?_;rintro e j4 ⟨rfl,g1,f2,f0⟩;have f1:=b8.trans f2;have HR:=hid (e3.lastS n4 f0);replace HR:=hid (a7.lastS e4 HR.out);go_wp2;go_ret;exact⟨_,_,_,_,rfl,g1,f1,HR.out.weak (by omega) (by omega)⟩
  | false=>
  replace c2:SM V src r B _ j0 (p+1) x m:=c2;have a0:=a8.step c2 e2;have b7:=b6.trans e2;have e3:=b4.tkF j8;have j6:=e3.le;go_wp2_with fail;refine(a0b hV a0.pk.sm a1l).mono ?_;rintro e i6 ⟨n5,rfl,j9,c0,c3⟩
  cases n5 with
  | false=>
   replace c0:SM V src r B _ i6 (p+1) x m:=c0;have b0:=a0.step c0 c3;have b8:=b7.trans c3;have i2:=e3.tkF j9;have l1:=i2.le;obtain⟨d0,d1,d2,d3,d4,d5,d6,d7,d8,d9⟩:=b0.cells;have dz:=b0.fz;go_wp2_with fail;refine(a0g b0.pk.out (by have:=a0r (V:=V) (p:=(p+1)) (x:=x) (m:=m);omega) { op:=58,pos:=V.pos p } _ b0.pk.kids (fun _=>b0.pk.far (fun g hg=>h.dl g hg))).mono ?_;rintro e j4 ⟨rfl,g1,f2,f0⟩;have f1:=b8.trans f2;have HR:=hid (i2.last f0);replace HR:=hid (a7.lastS e4 HR.out);go_wp2;go_ret;exact⟨_,_,_,_,rfl,g1,f1,HR.out.weak (by omega) (by omega)⟩
  | true=>
  replace c0:SM V src r B _ i6 ((p+1)+1) x m:=c0;have b0:=a0.step c0 c3;have b8:=b7.trans c3;obtain⟨u2,n6,u3,r6⟩:=j9.yes;have i2:=e3.tkT j9;have l1:=i2.le;have r4:=c0.le;have l2:∀ o,x=some o->V.ts.length-((p+1)+1)<_:=fun o e=>Nat.lt_of_le_of_lt (by omega) (hnt o e);obtain⟨d0,d1,d2,d3,d4,d5,d6,d7,d8,d9⟩:=b0.cells;have dz:=b0.fz;go_wp2_with fail;clear d0 d1 d2 d3 d4 d5 d6 d7 d8 d9 dz;have g0:=b0.set 3 (.int .i64 2) { op:=58,n:=2,pos:=V.pos p } rfl;have f1:=b8.set (j:=3) (.int .i64 2) b0.lo;obtain⟨d0,d1,d2,d3,d4,d5,d6,d7,d8,d9⟩:=g0.cells;have dz:=g0.fz;go_wp2_with fail
  refine(a0g g0.pk.out (by have:=a0r (V:=V) (p:=((p+1)+1)) (x:=x) (m:=m);omega) { op:=58,n:=2,pos:=V.pos p } _ g0.pk.kids (fun _=>g0.pk.far (fun g hg=>h.dl g hg))).mono ?_;rintro e u4 ⟨rfl,n7,n8,n9⟩;have k0:=f1.trans n8;have HR:=hid (i2.lastS n6 n9);replace HR:=hid (a7.lastS e4 HR.out);go_wp2;go_ret;exact⟨_,_,_,_,rfl,n7,k0,HR.out.weak (by omega) (by omega)⟩
 | false=>
 replace h4:SM V src r B _ w4 p x m:=h4;have f4:=f3.step h4 z4;have s4:=s3.trans z4;go_wp2_with fail;refine(a0b hV f4.pk.sm a1C).mono ?_;rintro e w5 ⟨c5,rfl,t5,h5,z5⟩
 cases c5 with
 | true=>
  replace h5:SM V src r B _ w5 (p+1) x m:=h5;have f5:=f4.step h5 z5;have s5:=s4.trans z5;obtain⟨o5,e5,g5,m4⟩:=t5.yes;have u5:=h5.le;have a7:=l0.step e5 m4 (fun o _=>b2i g5 o);have h3:=a7.le;have hps:=a0j (m:=m) e5 m4;have hnt:∀ o,x=some o->V.ts.length-(p+1)<n:=fun o e=>Nat.lt_of_le_of_lt (by omega) (hn o e);obtain⟨d0,d1,d2,d3,d4,d5,d6,d7,d8,d9⟩:=f5.cells;have dz:=f5.fz;go_wp2_with fail;clear d0 d1 d2 d3 d4 d5 d6 d7 d8 d9 dz;have a8:=f5.set 0 (.int .i64 59) { op:=59,pos:=V.pos p } rfl;have b6:=s5.set (j:=0) (.int .i64 59) f5.lo;have b2:=a7.rest;have i0:=b2.le;obtain⟨d0,d1,d2,d3,d4,d5,d6,d7,d8,d9⟩:=a8.cells;have dz:=a8.fz;go_wp2_with fail
  refine(a0g a8.pk.out (by have:=a0r (V:=V) (p:=(p+1)) (x:=x) (m:=m);omega) { op:=59,pos:=V.pos p } _ a8.pk.kids (fun _=>a8.pk.far (fun g hg=>h.dl g hg))).mono ?_;rintro e e0 ⟨rfl,b3,b5,c1⟩;have b9:=b6.trans b5;have HR:=hid (b2.last c1);replace HR:=hid (a7.lastS e5 HR.out);go_wp2;go_ret;exact⟨_,_,_,_,rfl,b3,b9,HR.out.weak (by omega) (by omega)⟩
 | false=>
 replace h5:SM V src r B _ w5 p x m:=h5;have f5:=f4.step h5 z5;have s5:=s4.trans z5;go_wp2_with fail;refine(a0b hV f5.pk.sm a1b).mono ?_;rintro e w6 ⟨c6,rfl,t6,h6,z6⟩
 cases c6 with
 | true=>
  replace h6:SM V src r B _ w6 (p+1) x m:=h6;have f6:=f5.step h6 z6;have s6:=s5.trans z6;obtain⟨o6,e6,g6,m5⟩:=t6.yes;have u6:=h6.le;have a7:=l0.step e6 m5 (fun o _=>a7L g6 o);have h3:=a7.le;have hps:=a0j (m:=m) e6 m5;have hnt:∀ o,x=some o->V.ts.length-(p+1)<n:=fun o e=>Nat.lt_of_le_of_lt (by omega) (hn o e);obtain⟨d0,d1,d2,d3,d4,d5,d6,d7,d8,d9⟩:=f6.cells;have dz:=f6.fz;go_wp2_with fail;clear d0 d1 d2 d3 d4 d5 d6 d7 d8 d9 dz;have a8:=f6.set 0 (.int .i64 60) { op:=60,pos:=V.pos p } rfl;have b6:=s6.set (j:=0) (.int .i64 60) f6.lo;have b2:=a7.rest;have i0:=b2.le;go_wp2_with fail;refine(a0b hV a8.pk.sm k_to).mono ?_;rintro e e0 ⟨k1,rfl,i4,b3,b5⟩
  cases k1 with
  | false=>
   replace b3:SM V src r B _ e0 (p+1) x m:=b3;have a9:=a8.step b3 b5;have b9:=b6.trans b5;have b4:=b2.tkF i4;have i1:=b4.le;obtain⟨d0,d1,d2,d3,d4,d5,d6,d7,d8,d9⟩:=a9.cells;have dz:=a9.fz;go_wp2_with fail;refine(a0g a9.pk.out (by have:=a0r (V:=V) (p:=(p+1)) (x:=x) (m:=m);omega) { op:=60,pos:=V.pos p } _ a9.pk.kids (fun _=>a9.pk.far (fun g hg=>h.dl g hg))).mono ?_;rintro e j0 ⟨rfl,c2,e2,g2⟩;have b7:=b9.trans e2;have HR:=hid (b4.last g2);replace HR:=hid (a7.lastS e6 HR.out);go_wp2;go_ret;exact⟨_,_,_,_,rfl,c2,b7,HR.out.weak (by omega) (by omega)⟩
  | true=>
  replace b3:SM V src r B _ e0 ((p+1)+1) x m:=b3;have a9:=a8.step b3 b5;have b9:=b6.trans b5;obtain⟨o0,k2,o1,m0⟩:=i4.yes;have b4:=b2.tkT i4;have i1:=b4.le;have l9:=b3.le;have i3:∀ o,x=some o->V.ts.length-((p+1)+1)<_:=fun o e=>Nat.lt_of_le_of_lt (by omega) (hnt o e);go_wp2_with fail;refine(name_any hV hE a9.pk.sm).mono ?_;rintro e j0 ⟨k3,k4,g3,rfl,c2,e2,g2⟩;have a0:=a9.step c2 e2;have b7:=b9.trans e2;have m1:=g2.le;have e3:=b4.pay k2 g2 (fun _=>rfl);have j6:=e3.le;have k9:=g2.fuel i3;obtain⟨d0,d1,d2,d3,d4,d5,d6,d7,d8,d9⟩:=a0.cells;have dz:=a0.fz;go_wp2_with fail;clear d0 d1 d2 d3 d4 d5 d6 d7 d8 d9 dz;have b0:=a0.set 1 (.string g3) { op:=60,name:=g3,pos:=V.pos p } rfl
  have b8:=b7.set (j:=1) (.string g3) a0.lo;obtain⟨d0,d1,d2,d3,d4,d5,d6,d7,d8,d9⟩:=b0.cells;have dz:=b0.fz;go_wp2_with fail;refine(a0g b0.pk.out (by have:=a0r (V:=V) (p:=k3) (x:=k4) (m:=m);omega) { op:=60,name:=g3,pos:=V.pos p } _ b0.pk.kids (fun _=>b0.pk.far (fun g hg=>h.dl g hg))).mono ?_;rintro e j4 ⟨rfl,g1,f2,f0⟩;have f1:=b8.trans f2;have HR:=hid (e3.last f0);replace HR:=hid (a7.lastS e6 HR.out);go_wp2;go_ret;exact⟨_,_,_,_,rfl,g1,f1,HR.out.weak (by omega) (by omega)⟩
 | false=>
 replace h6:SM V src r B _ w6 p x m:=h6;have f6:=f5.step h6 z6;have s6:=s5.trans z6;go_wp2_with fail;refine(a0b hV f6.pk.sm a0Y).mono ?_;rintro e w7 ⟨c7,rfl,t7,h7,z7⟩
 cases c7 with
 | true=>
  replace h7:SM V src r B _ w7 (p+1) x m:=h7;have f7:=f6.step h7 z7;have s7:=s6.trans z7;obtain⟨o7,e7,g7,m6⟩:=t7.yes;have u7:=h7.le;have a7:=l0.step e7 m6 (fun o _=>a6H g7 o);have h3:=a7.le;have hps:=a0j (m:=m) e7 m6;have hnt:∀ o,x=some o->V.ts.length-(p+1)<n:=fun o e=>Nat.lt_of_le_of_lt (by omega) (hn o e);obtain⟨d0,d1,d2,d3,d4,d5,d6,d7,d8,d9⟩:=f7.cells;have dz:=f7.fz;go_wp2_with fail;clear d0 d1 d2 d3 d4 d5 d6 d7 d8 d9 dz;have a8:=f7.set 0 (.int .i64 61) { op:=61,pos:=V.pos p } rfl;have b6:=s7.set (j:=0) (.int .i64 61) f7.lo;have b2:=a7.rest;have i0:=b2.le;go_wp2_with fail;refine(name_any hV hE a8.pk.sm).mono ?_;rintro e e0 ⟨j1,j2,e1,rfl,b3,b5,c1⟩;have a9:=a8.step b3 b5;have b9:=b6.trans b5;have l3:=c1.le
  have b4:=b2.bind c1;have i1:=b4.le;have i3:=c1.fuel hnt;obtain⟨d0,d1,d2,d3,d4,d5,d6,d7,d8,d9⟩:=a9.cells;have dz:=a9.fz;go_wp2_with fail;clear d0 d1 d2 d3 d4 d5 d6 d7 d8 d9 dz;have a0:=a9.set 1 (.string e1) { op:=61,name:=e1,pos:=V.pos p } rfl;have b7:=b9.set (j:=1) (.string e1) a9.lo;obtain⟨d0,d1,d2,d3,d4,d5,d6,d7,d8,d9⟩:=a0.cells;have dz:=a0.fz;go_wp2_with fail;refine(a0g a0.pk.out (by have:=a0r (V:=V) (p:=j1) (x:=j2) (m:=m);omega) { op:=61,name:=e1,pos:=V.pos p } _ a0.pk.kids (fun _=>a0.pk.far (fun g hg=>h.dl g hg))).mono ?_;rintro e i6 ⟨rfl,c0,c3,h0⟩;have b8:=b7.trans c3;have HR:=hid (b4.last h0);replace HR:=hid (a7.lastS e7 HR.out);go_wp2;go_ret;exact⟨_,_,_,_,rfl,c0,b8,HR.out.weak (by omega) (by omega)⟩
 | false=>
 replace h7:SM V src r B _ w7 p x m:=h7;have f7:=f6.step h7 z7;have s7:=s6.trans z7;go_wp2_with fail;refine(a0b hV f7.pk.sm a1O).mono ?_;rintro e w8 ⟨c8,rfl,t8,h8,z8⟩
 cases c8 with
 | true=>
  replace h8:SM V src r B _ w8 (p+1) x m:=h8;have f8:=f7.step h8 z8;have s8:=s7.trans z8;obtain⟨o8,e8,g8,m7⟩:=t8.yes;have u8:=h8.le;have a7:=l0.step e8 m7 (fun o _=>a8G g8 o);have h3:=a7.le;have hps:=a0j (m:=m) e8 m7;have hnt:∀ o,x=some o->V.ts.length-(p+1)<n:=fun o e=>Nat.lt_of_le_of_lt (by omega) (hn o e);obtain⟨d0,d1,d2,d3,d4,d5,d6,d7,d8,d9⟩:=f8.cells;have dz:=f8.fz;go_wp2_with fail;clear d0 d1 d2 d3 d4 d5 d6 d7 d8 d9 dz;have a8:=f8.set 0 (.int .i64 62) { op:=62,pos:=V.pos p } rfl;have b6:=s8.set (j:=0) (.int .i64 62) f8.lo;have b2:=a7.rest;have i0:=b2.le;go_wp2_with fail;refine(name_any hV hE a8.pk.sm).mono ?_;rintro e e0 ⟨j1,j2,e1,rfl,b3,b5,c1⟩;have a9:=a8.step b3 b5;have b9:=b6.trans b5;have l3:=c1.le
  have b4:=b2.bind c1;have i1:=b4.le;have i3:=c1.fuel hnt;obtain⟨d0,d1,d2,d3,d4,d5,d6,d7,d8,d9⟩:=a9.cells;have dz:=a9.fz;go_wp2_with fail;clear d0 d1 d2 d3 d4 d5 d6 d7 d8 d9 dz;have a0:=a9.set 1 (.string e1) { op:=62,name:=e1,pos:=V.pos p } rfl;have b7:=b9.set (j:=1) (.string e1) a9.lo;obtain⟨d0,d1,d2,d3,d4,d5,d6,d7,d8,d9⟩:=a0.cells;have dz:=a0.fz;go_wp2_with fail;refine(a0g a0.pk.out (by have:=a0r (V:=V) (p:=j1) (x:=j2) (m:=m);omega) { op:=62,name:=e1,pos:=V.pos p } _ a0.pk.kids (fun _=>a0.pk.far (fun g hg=>h.dl g hg))).mono ?_;rintro e i6 ⟨rfl,c0,c3,h0⟩;have b8:=b7.trans c3;have HR:=hid (b4.last h0);replace HR:=hid (a7.lastS e8 HR.out);go_wp2;go_ret;exact⟨_,_,_,_,rfl,c0,b8,HR.out.weak (by omega) (by omega)⟩
 | false=>
 replace h8:SM V src r B _ w8 p x m:=h8;have f8:=f7.step h8 z8;have s8:=s7.trans z8;go_wp2_with fail;refine(a0b hV f8.pk.sm a2j).mono ?_;rintro e w9 ⟨c9,rfl,t9,h9,z9⟩
 cases c9 with
 | true=>
  replace h9:SM V src r B _ w9 (p+1) x m:=h9;have f9:=f8.step h9 z9;have s9:=s8.trans z9;obtain⟨o9,e9,g9,m8⟩:=t9.yes;have u9:=h9.le;have a7:=l0.step e9 m8 (fun o _=>a8H g9 o);have h3:=a7.le;have hps:=a0j (m:=m) e9 m8;have hnt:∀ o,x=some o->V.ts.length-(p+1)<n:=fun o e=>Nat.lt_of_le_of_lt (by omega) (hn o e);obtain⟨d0,d1,d2,d3,d4,d5,d6,d7,d8,d9⟩:=f9.cells;have dz:=f9.fz;go_wp2_with fail;clear d0 d1 d2 d3 d4 d5 d6 d7 d8 d9 dz;have a8:=f9.set 0 (.int .i64 63) { op:=63,pos:=V.pos p } rfl;have b6:=s9.set (j:=0) (.int .i64 63) f9.lo;have b2:=a7.rest;have i0:=b2.le;go_wp2_with fail;refine(hQ.r a8.pk.sm hnt (by omega)).mono ?_;rintro e e0 ⟨e1,j1,j2,o2,rfl,b3,b5,c1⟩;have a9:=a8.step b3 b5;have b9:=b6.trans b5;have l3:=c1.le
  have b4:=b2.bind c1;have i1:=b4.le;have i3:=c1.fuel hnt;obtain⟨d0,d1,d2,d3,d4,d5,d6,d7,d8,d9⟩:=a9.cells;have dz:=a9.fz;have dnb:=a9.nb.1;have ez:∀ o,(e0.alloc o).frozen? ⟨w2.heap.size,8,none⟩=false:=fun o=>((below_alloc _ o).frozen (p:=⟨w2.heap.size,8,none⟩) dnb).trans (dz 8);have e8:∀ o,(e0.alloc o).cell? ⟨w2.heap.size,8,none⟩=some (.slice none 0 0):=fun o=>((below_alloc _ o).cell (p:=⟨w2.heap.size,8,none⟩) dnb).trans d8;have a0:=a9.kidsL [e1] (by simp);have b7:=(b9.set (j:=8) (.slice (some ⟨e0.heap.size,0,none⟩) 1 1) a9.lo).alloc (.cells #[.int .i64 e1] 3);go_wp2_with fail;clear d0 d1 d2 d3 d4 d5 d6 d7 d8 d9 dz dnb ez e8;obtain⟨d0,d1,d2,d3,d4,d5,d6,d7,d8,d9⟩:=a0.cells;have dz:=a0.fz;go_wp2_with fail
  refine(a0g a0.pk.out (by have:=a0r (V:=V) (p:=j1) (x:=j2) (m:=o2);omega) { op:=63,kids:=[e1],pos:=V.pos p } _ a0.pk.kids (fun _=>a0.pk.far (fun g hg=>h.dl g hg))).mono ?_;rintro e i6 ⟨rfl,c0,c3,h0⟩;have b8:=b7.trans c3;have HR:=hid (b4.last h0);replace HR:=hid (a7.lastS e9 HR.out);go_wp2;go_ret;exact⟨_,_,_,_,rfl,c0,b8,HR.out.weak (by omega) (by omega)⟩
 | false=>
 replace h9:SM V src r B _ w9 p x m:=h9;have f9:=f8.step h9 z9;have s9:=s8.trans z9;go_wp2_with fail;refine(a0b hV f9.pk.sm a1r).mono ?_;rintro e m9 ⟨p5,rfl,n0,i8,k5⟩
 cases p5 with
 | true=>
  replace i8:SM V src r B _ m9 (p+1) x m:=i8;have i7:=f9.step i8 k5;have k6:=s9.trans k5;obtain⟨v4,l4,p6,l6⟩:=n0.yes;have r7:=i8.le;have a7:=l0.step l4 l6 (fun o _=>a5T p6 o);have h3:=a7.le;have hps:=a0j (m:=m) l4 l6;have hnt:∀ o,x=some o->V.ts.length-(p+1)<n:=fun o e=>Nat.lt_of_le_of_lt (by omega) (hn o e);obtain⟨d0,d1,d2,d3,d4,d5,d6,d7,d8,d9⟩:=i7.cells;have dz:=i7.fz;go_wp2_with fail;clear d0 d1 d2 d3 d4 d5 d6 d7 d8 d9 dz;have a8:=i7.set 0 (.int .i64 64) { op:=64,pos:=V.pos p } rfl;have b6:=k6.set (j:=0) (.int .i64 64) i7.lo;have b2:=a7.rest;have i0:=b2.le;obtain⟨d0,d1,d2,d3,d4,d5,d6,d7,d8,d9⟩:=a8.cells;have dz:=a8.fz;go_wp2_with fail
  refine(a0g a8.pk.out (by have:=a0r (V:=V) (p:=(p+1)) (x:=x) (m:=m);omega) { op:=64,pos:=V.pos p } _ a8.pk.kids (fun _=>a8.pk.far (fun g hg=>h.dl g hg))).mono ?_;rintro e e0 ⟨rfl,b3,b5,c1⟩;have b9:=b6.trans b5;have HR:=hid (b2.last c1);replace HR:=hid (a7.lastS l4 HR.out);go_wp2;go_ret;exact⟨_,_,_,_,rfl,b3,b9,HR.out.weak (by omega) (by omega)⟩
 | false=>
 replace i8:SM V src r B _ m9 p x m:=i8;have i7:=f9.step i8 k5;have k6:=s9.trans k5;go_wp2_with fail;refine(a0b hV i7.pk.sm a2L).mono ?_;rintro e n1 ⟨p7,rfl,n2,i9,k7⟩
 cases p7 with
 | false=>
  replace i9:SM V src r B _ n1 p x m:=i9;have i5:=i7.step i9 k7;have l5:=k6.trans k7;have HR:Hid (Res V 500 20 (stmF V E Q G p) p x m p none (m+1) (m:Int)):=⟨fun z=>⟨rfl,rfl⟩,fun o ho=>(by obtain⟨a1,a2,a3,a4,a5,a6⟩:=hno o ho;rw[b5G a3 a4 a5 a6 (n2.no ho) (t4.no ho) (t5.no ho) (t6.no ho) (t7.no ho) (t8.no ho) (t9.no ho) (n0.no ho),hQb p o a1 a2];rfl),Nat.le_refl _,(by have hh:=a0r (V:=V) (p:=p) (x:=x) (m:=m);simp only[pot,Option.isSome_none] at hh ⊢;simp at hh ⊢;omega)⟩;obtain⟨ta,tc,oa,oc,p8,p9,q0,q1,q3,q4,q5,q6,rht⟩:=i5.pk.sm.cells;go_upto_region 36 with fail;clear p8 p9 q0 q1 q3 q4 q5 q6 rht;have j7:=i5.step (i5.pk.sm.bad) (i5.pk.sm.sp.setR (j:=4) (.bool true) (by decide));have q7:=l5.setR (j:=4) (.bool true) (by decide)
  obtain⟨d0,d1,d2,d3,d4,d5,d6,d7,d8,d9⟩:=j7.cells;have dz:=j7.fz;go_wp2_with fail;refine(a0g j7.pk.out (by have:=a0r (V:=V) (p:=p) (x:=x) (m:=m);omega) { op:=0,pos:=V.pos p } _ j7.pk.kids (fun _=>j7.pk.far (fun g hg=>h.dl g hg))).mono ?_;rintro e v5 ⟨rfl,q8,q9,v6⟩;have r0:=q7.trans q9;go_wp2;go_ret;exact⟨_,_,_,_,rfl,q8,r0,HR.out⟩
 | true=>
 replace i9:SM V src r B _ n1 (p+1) x m:=i9;have i5:=i7.step i9 k7;have l5:=k6.trans k7;obtain⟨v7,k8,r1,l7⟩:=n2.yes;have r8:=i9.le;have a7:=l0.step k8 l7 (fun o _=>b5E r1 o);have h3:=a7.le;have hps:=a0j (m:=m) k8 l7;have hnt:∀ o,x=some o->V.ts.length-(p+1)<n:=fun o e=>Nat.lt_of_le_of_lt (by omega) (hn o e);obtain⟨d0,d1,d2,d3,d4,d5,d6,d7,d8,d9⟩:=i5.cells;have dz:=i5.fz;go_wp2_with fail;clear d0 d1 d2 d3 d4 d5 d6 d7 d8 d9 dz;have a8:=i5.set 0 (.int .i64 56) { op:=56,pos:=V.pos p } rfl;have b6:=l5.set (j:=0) (.int .i64 56) i5.lo;have b2:=a7.rest;have i0:=b2.le;go_wp2_with fail;refine(a0b hV a8.pk.sm a2Q).mono ?_;rintro e e0 ⟨k1,rfl,i4,b3,b5⟩
 cases k1 with
 | true=>
  replace b3:SM V src r B _ e0 ((p+1)+1) x m:=b3;have a9:=a8.step b3 b5;have b9:=b6.trans b5;obtain⟨o0,k2,o1,m0⟩:=i4.yes;have b4:=b2.tkT i4;have i1:=b4.le;have l9:=b3.le;have i3:∀ o,x=some o->V.ts.length-((p+1)+1)<_:=fun o e=>Nat.lt_of_le_of_lt (by omega) (hnt o e);go_wp2_with fail;refine(name_any hV hE a9.pk.sm).mono ?_;rintro e j0 ⟨k3,k4,g3,rfl,c2,e2,g2⟩;have a0:=a9.step c2 e2;have b7:=b9.trans e2;have m1:=g2.le;have e3:=b4.pay k2 g2 (fun _=>rfl);have j6:=e3.le;have k9:=g2.fuel i3;obtain⟨d0,d1,d2,d3,d4,d5,d6,d7,d8,d9⟩:=a0.cells;have dz:=a0.fz;go_wp2_with fail;clear d0 d1 d2 d3 d4 d5 d6 d7 d8 d9 dz;have b0:=a0.set 1 (.string g3) { op:=56,name:=g3,pos:=V.pos p } rfl
  have b8:=b7.set (j:=1) (.string g3) a0.lo;obtain⟨d0,d1,d2,d3,d4,d5,d6,d7,d8,d9⟩:=b0.cells;have dz:=b0.fz;go_wp2_with fail;refine(a0g b0.pk.out (by have:=a0r (V:=V) (p:=k3) (x:=k4) (m:=m);omega) { op:=56,name:=g3,pos:=V.pos p } _ b0.pk.kids (fun _=>b0.pk.far (fun g hg=>h.dl g hg))).mono ?_;rintro e j4 ⟨rfl,g1,f2,f0⟩;have f1:=b8.trans f2;have HR:=hid (e3.last f0);replace HR:=hid (a7.lastS k8 HR.out);go_wp2;go_ret;exact⟨_,_,_,_,rfl,g1,f1,HR.out.weak (by omega) (by omega)⟩
 | false=>
 replace b3:SM V src r B _ e0 (p+1) x m:=b3;have a9:=a8.step b3 b5;have b9:=b6.trans b5;have b4:=b2.tkF i4;have i1:=b4.le;obtain⟨d0,d1,d2,d3,d4,d5,d6,d7,d8,d9⟩:=a9.cells;have dz:=a9.fz;go_wp2_with fail;clear d0 d1 d2 d3 d4 d5 d6 d7 d8 d9 dz;have a0:=a9.set 0 (.int .i64 57) { op:=57,pos:=V.pos p } rfl;have b7:=b9.set (j:=0) (.int .i64 57) a9.lo;go_wp2_with fail;refine(a0i hV a0.pk.sm a2o).mono ?_;rintro e i6 ⟨v0,v1,rfl,c0,c3,h0⟩;have b0:=a0.step c0 c3;have b8:=b7.trans c3;have r9:=h0.le;have i2:=b4.bind h0;have l1:=i2.le;have l2:=h0.fuel hnt;go_wp2_with fail;refine(name_any hV hE b0.pk.sm).mono ?_;rintro e j4 ⟨o3,p0,j5,rfl,g1,f2,f0⟩;have g0:=b0.step g1 f2;have f1:=b8.trans f2
 have s0:=f0.le;have l8:=i2.bind f0;have t0:=l8.le;have t1:=f0.fuel l2;obtain⟨d0,d1,d2,d3,d4,d5,d6,d7,d8,d9⟩:=g0.cells;have dz:=g0.fz;go_wp2_with fail;clear d0 d1 d2 d3 d4 d5 d6 d7 d8 d9 dz;have j3:=g0.set 1 (.string j5) { op:=57,name:=j5,pos:=V.pos p } rfl;have k0:=f1.set (j:=1) (.string j5) g0.lo;obtain⟨d0,d1,d2,d3,d4,d5,d6,d7,d8,d9⟩:=j3.cells;have dz:=j3.fz;go_wp2_with fail;refine(a0g j3.pk.out (by have:=a0r (V:=V) (p:=o3) (x:=p0) (m:=m);omega) { op:=57,name:=j5,pos:=V.pos p } _ j3.pk.kids (fun _=>j3.pk.far (fun g hg=>h.dl g hg))).mono ?_;rintro e v2 ⟨rfl,p1,p2,p3⟩;have p4:=k0.trans p2;have HR:=hid (l8.last p3);replace HR:=hid (a7.lastS k8 HR.out);go_wp2;go_ret
 exact⟨_,_,_,_,rfl,p1,p4,HR.out.weak (by omega) (by omega)⟩
end Go.Proofs.YtphmpkpcamgjeaaGreatDoor
