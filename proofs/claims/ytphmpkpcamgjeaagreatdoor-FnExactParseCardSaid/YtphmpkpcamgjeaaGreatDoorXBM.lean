import Derived.Test.YtphmpkpcamgjeaaGreatDoorXAA
import Derived.Test.YtphmpkpcamgjeaaGreatDoorXBJ
import Derived.Deep.DeepCutAuto
import Derived.Test.YtphmpkpcamgjeaaGreatDoorXAR
set_option linter.unusedVariables false
set_option linter.unusedSimpArgs false
set_option maxRecDepth 100000
set_option maxHeartbeats 16000000
namespace Go.Proofs.YtphmpkpcamgjeaaGreatDoor
open Go.ChangeShapes Go.WideShapes Go.ChangeAt Go.RowKit Go.Proofs.Tryz
theorem b8Z (V:Env) (E:M Int) (q:Nat) (o:List Nd):rowF V E q o=(must V g_lp q o).bind fun _ p o=>(a0F V (a1y V E) p o).bind fun ks p o=>(must V g_rp p o).bind fun _ p o=>lay { op:=44,kids:=ks,pos:=V.pos q } p o:=a3d V (a1y V E) _ q o
theorem b2d {V:Env} {src:ByteArray} {n:Nat} {E Q:M Int} (hV:VO V src) (hE:SV V) (hA:a0w V src 87 10 n E) (hQ:a0w V src 24 240 n Q) {r B:Nat} {D:Nat->Prop} {w:World} {p:Nat} {x:Option (List Nd)} {m:Nat} (ps:Int) (h:SM V src r B D w p x m) (hn:∀ o,x=some o->V.ts.length-p<n) (hp:pot V p x m+300<=4000000) :
 Calls prog 49 #[.pointer (some ⟨r,0,none⟩),.int .i64 ps] w fun e w'=>b1b V src r B D 300 (a2S V E Q ps p) w p x m e w':=by
 have hT:=hV.n;have hle:=h.le;have l0:=Lp.refl V (a2S V E Q ps p) p x m;have Q0:=l0.le;go_enter func49,ntmps49;go_wp2_with fail;refine(a0i hV h b3i).mono ?_;rintro e w1 ⟨q1,y1,rfl,h1,z1,r1⟩;have s1:=h.sp.trans z1;have Q1:=r1.le;have l1:=l0.bind r1;have Q2:=l1.le;go_wp2_with fail;refine(name_any hV hE h1).mono ?_;rintro e w2 ⟨q2,y2,a2,rfl,h2,z2,r2⟩;have s2:=s1.trans z2;have Q3:=r2.le;have l2:=l1.bind r2;have Q4:=l2.le;have f3:=NV.new (b:=w.heap.size) h2 (by have:=s2.size;omega) { op:=40,name:=a2,pos:=ps };have s3:=s2.alloc (.cells (ndA { op:=40,name:=a2,pos:=ps } (.slice none 0 0)) 42);go_wp2_with fail;refine(a0C hV f3.pk.sm).mono ?_;rintro e w4 ⟨rfl,b4⟩;have f4:=f3.below b4;have s4:=s3.below b4;have p6:=l2.fuel hn;have l5:=l2.rest;have Q5:=l5.le;go_upto_region 4 with fail
 go_cut [29] from 18 (fun v wx=>∃ d:Bool,v=.bool d/\wx=w4/\Hid (d=(y2.isSome&&sees V q2 g_lp&&!sees V (q2+1) a0l&&!sees V (q2+1) g_lp)))
 case first=>
  go_wp2_with fail;refine(a0G hV f4.pk.sm g_lp).mono ?_;rintro e w6 ⟨c6,rfl,t6,x6⟩;replace x6:=x6.symm;subst x6
  cases c6 with
  | false=>
   have hz:=hid (show false=(y2.isSome&&sees V q2 g_lp&&!sees V (q2+1) a0l&&!sees V (q2+1) g_lp) by rw[show(y2.isSome&&sees V q2 g_lp)=false from Eq.symm t6];simp);go_wp2;go_meet
   case rel=>exact⟨false,rfl,rfl,hz⟩
  | true=>
  go_wp2_with fail;refine(a2X hV f4.pk.sm 1 (by omega) a0l).mono ?_;rintro e wx ⟨rfl,jx⟩;replace jx:=jx.symm;subst jx
  cases hs:sees V (q2+1) a0l with
  | true=>
   have hz:=hid (show false=(y2.isSome&&sees V q2 g_lp&&!sees V (q2+1) a0l&&!sees V (q2+1) g_lp) by rw[show(y2.isSome&&sees V q2 g_lp)=true from Eq.symm t6];simp[hs]);go_wp2;go_meet
   case rel=>exact⟨false,rfl,rfl,hz⟩
  | false=>
  go_wp2_with fail;refine(a2X hV f4.pk.sm 1 (by omega) g_lp).mono ?_;rintro e wx ⟨rfl,jx⟩;replace jx:=jx.symm;subst jx
  cases hl:sees V (q2+1) g_lp with
  | true=>
   have hz:=hid (show false=(y2.isSome&&sees V q2 g_lp&&!sees V (q2+1) a0l&&!sees V (q2+1) g_lp) by rw[show(y2.isSome&&sees V q2 g_lp)=true from Eq.symm t6];simp[hl]);go_wp2;go_meet
   case rel=>exact⟨false,rfl,rfl,hz⟩
  | false=>
  have hz:=hid (show true=(y2.isSome&&sees V q2 g_lp&&!sees V (q2+1) a0l&&!sees V (q2+1) g_lp) by rw[show(y2.isSome&&sees V q2 g_lp)=true from Eq.symm t6];simp[hs,hl]);go_wp2;go_meet
  case rel=>exact⟨true,rfl,rfl,hz⟩
 case rest=>
 rename World=>w77;obtain⟨d,rfl,ew,HD⟩:=hcut;replace ew:=ew.symm;subst ew;go_upto_if 29 with fail;go_cut [] (fun wx=>∃ (ks:List Int) (q:Nat) (y:Option (List Nd)) (m1:Nat) (va:Option Addr) (vn vc:Nat),NV V src r B D w.heap.size wx q y m1 w2.heap.size { op:=40,name:=a2,pos:=ps } (.slice va vn vc) ks/\Sp 3 r w wx/\Lp V 14 14 (fun o=>if sees V q2 g_lp&&!sees V (q2+1) a0l&&!sees V (q2+1) g_lp then(a1E V (a0R V) q2 o).bind fun gs q o=>(lay { op:=41,kids:=gs,pos:=V.pos q2 } q o).bind fun c q o=>ins2 V E Q ps a2 [c] q o else ins2 V E Q ps a2 [] q2 o) (ins2 V E Q ps a2 ks q) q2 y2 m q y m1/\Hid (ks.length<=1))
 case first=>
  cases d with
  | false=>
   have g7:=l5.congr (G':=fun o=>ins2 V E Q ps a2 [] q2 o) (fun o ho=>by have hd:=HD.out;rw[ho] at hd;rw[if_neg (by rw[Option.isSome_some,Bool.true_and] at hd;rw[<- hd];simp)]);have y3:=g7.le;have lm:=(g7).weak (d':=14) (c':=14) (by omega) (by omega)
   have hkm:Hid ((([]:List Int):List Int).length<=1):=by simp[Hid]
   go_wp2;go_meet
   case rel=>exact⟨_,_,_,_,_,_,_,f4,s4,lm,hkm⟩
  | true=>
  obtain⟨o1,e1,g1,g2,g3⟩:∃ o,y2=some o/\sees V q2 g_lp=true/\sees V (q2+1) a0l=false/\sees V (q2+1) g_lp=false:=by have hd:=HD.out;revert hd;cases y2 with | none=>(intro z;simp at z) | some o=>(intro z;simp only[Option.isSome_some,Bool.true_and,Bool.true_eq,Bool.and_eq_true,Bool.not_eq_true'] at z;exact⟨o,rfl,z.1.1,z.1.2,z.2⟩)
  have v8:=a0c g1;have g7:=(l5.step e1 v8 (A:=fun o=>(a0F V (a0R V) (q2+1) o).bind fun gs q o=>(must V g_rp q o).bind fun _ q o=>(lay { op:=41,kids:=gs,pos:=V.pos q2 } q o).bind fun c q o=>ins2 V E Q ps a2 [c] q o) (fun o ho=>by rw[if_pos (by simp[g1,g2,g3]),a3d];simp[must,g1,R.bind]));have y3:=g7.le;have hps:=a0j (m:=m) e1 v8;have hnt:∀ o,y2=some o->V.ts.length-(q2+1)<n:=fun o e=>Nat.lt_of_le_of_lt (by omega) (p6 o e);obtain⟨ta,tc,oa,oc,D5,D6,D7,D8,D9,E0,E1,E2,rht⟩:=f4.pk.sm.cells
  have hpa:(q2:Int)<=2000:=by have:=f4.pk.sm.le;omega
  go_upto_region 6 with fail;clear D5 D6 D7 D8 D9 E0 E1 E2 rht;have n9:=f4.step (f4.pk.sm.at (q:=q2+1) (by omega) (z:=(q2:Int)+1) rfl) (f4.pk.sm.sp.setR (j:=2) (.int .i64 ((q2:Int)+1)) (by decide));have v9:=s4.setR (j:=2) (.int .i64 ((q2:Int)+1)) (by decide);have w0:=g7.rest;have L9:=w0.le;generalize Q6:w4.setCell ⟨r,2,none⟩ (.int .i64 ((q2:Int)+1))=w5 at *;have t0:=n9.pk.sm.sp;have I0:=v9.size;go_wp2_with fail;refine(a5t hV hE n9.pk.sm (by omega)).mono ?_;rintro e Q7 ⟨Q8,E3,Q9,R0,p0,rfl,o0,w3,p1,M0⟩;obtain⟨M1,M2,rfl⟩:=a2c o0.row;have R1:=o0.sm;have E4:=v9.trans w3;have o6:=t0.trans w3;have M3:=p1.le;have w7:=w0.bind p1;have M4:=w7.le;have y4:=p1.fuel hnt;go_wp2_with fail;refine(a0i hV o0.sm g_rp).mono ?_
  rintro e R2 ⟨E5,E6,rfl,E7,p2,p3⟩;have w8:=o0.step E7 p2;have E8:=E4.trans p2;have o7:=o6.trans p2;have M5:=p3.le;have w9:=w7.bind p3;have M6:=w9.le;have y5:=p3.fuel y4;have x0:=n9.step w8.out o7;have y6:=hid (x0.cells.2.2.2.2.2.2.2.2.1);go_wp2;refine a0a (S:=(fun W=>W.cell? ⟨w2.heap.size,8,none⟩=some (.slice none 0 0))) (late:=[9,10]) (by kernel_rfl) (by first | exact y6.out | go_keep) (fun hHeld=>?_);refine tT 0 rfl hHeld ?_
  try simp only[Act.put,q1,q2,q3]
  refine tL 1 rfl hHeld ?_
  try simp only[Act.put,q1,q2,q3]
  refine tT 2 rfl hHeld ?_
  try simp only[Act.put,q1,q2,q3]
  refine tT 3 rfl hHeld ?_
  try simp only[Act.put,q1,q2,q3]
  refine tT 4 rfl hHeld ?_
  try simp only[Act.put,q1,q2,q3]
  refine tT 5 rfl hHeld ?_
  try simp only[Act.put,q1,q2,q3]
  have E9:=x0.below ((Below.refl _ _).drew);refine rE 6 rfl fun K hK=>?_;go_simp;have k2:=w8.below ((Below.refl _ _).drew);refine(a0g k2.out (by have:=a0r (V:=V) (p:=E5) (x:=E6) (m:=p0);omega) { op:=41,kids:=E3,pos:=V.pos q2 } _ k2.kids (fun _=>k2.far (fun g hg=>n9.pk.sm.dl g hg))).mono ?_;rintro e R3 ⟨rfl,F0,x1,p4⟩;have p5:=E9.step F0 x1;have F1:=E8.drew.trans x1;have M7:=p4.le;have x2:=w9.bind p4;have M8:=x2.le;have M9:=p4.fuel y5;obtain⟨N0,N1,N2,R4,o2,F2,F3,y7,N3⟩:=p5.kid (p0:Int) (by first | (simp;done) | (simp;omega) | omega);refine hK _ _ ⟨p5.cells.2.2.2.2.2.2.2.2.1,?_⟩;clear hK K
  try simp only[Act.put,q1,q2,q3]
  refine rE 7 rfl fun K hK=>?_;go_simp;refine hK _ _ ⟨(p5.below (below_alloc _ _)).cells.2.2.2.2.2.2.2.2.1,?_⟩;clear hK K
  try simp only[Act.put,q1,q2,q3]
  refine rE 8 rfl fun K hK=>?_;refine a0e rfl (.tmp 42) (.tmp 48) 37 rfl _ _ rfl rfl _ _ o2 ?_;refine hK _ _ ⟨y7,?_⟩;clear hK K o2
  try simp only[Act.put,q1,q2,q3]
  refine rL 9 rfl fun K hK=>?_;go_simp;refine hK _ _ ?_;clear hK K
  try simp only[Act.put,q1,q2,q3]
  refine rL 10 rfl fun K hK=>?_;go_simp;refine hK _ _ ?_;clear hK K
  try simp only[Act.put,q1,q2,q3]
  refine a0h (by kernel_rfl) ?_ _;have F4:=F3 w F1 (by first | exact Nat.le_refl _ | omega);have lm:=((g7.compS e1 x2)).weak (d':=14) (c':=14) (by omega) (by omega)
  have hkm:Hid (([]++[(p0:Int)]:List Int).length<=1):=by simp[Hid]
  go_wp2;go_meet
  case rel=>exact⟨_,_,_,_,_,_,_,F2,F4,lm,hkm⟩
 case rest=>
 rename World=>w211;obtain⟨c0,a1,c1,c9,e9,f0,f1,p7,y8,f2,t1⟩:=hcut;have H2:=t1.out;have I1:=f2.le;have i4:=f2.fuel p6;go_wp2_with fail;refine(a0C hV p7.pk.sm).mono ?_;rintro e N4 ⟨rfl,p8⟩;have k3:=p7.below p8;have p9:=y8.below p8;have k4:=f2.rest;have I2:=k4.le;go_wp2_with fail;refine(a0b hV k3.pk.sm a3H).mono ?_;rintro e a3 ⟨y9,rfl,k5,c2,g9⟩
 cases y9 with
 | false=>
  replace c2:SM V src r B _ a3 a1 c1 c9:=c2;have c3:=k3.step c2 g9;have f5:=p9.trans g9;have e0:=k4.tkF k5;have t2:=e0.le;go_wp2;refine a0a (S:=(fun W=>W.cell? ⟨w2.heap.size,8,none⟩=some (.slice e9 f0 f1))) (late:=[6,7]) (by kernel_rfl) (by first | exact c3.cells.2.2.2.2.2.2.2.2.1 | go_keep) (fun hHeld=>?_);refine tT 0 rfl hHeld ?_
  try simp only[Act.put,q1,q2,q3]
  refine tL 1 rfl hHeld ?_
  try simp only[Act.put,q1,q2,q3]
  refine tT 2 rfl hHeld ?_
  try simp only[Act.put,q1,q2,q3]
  refine rE 3 rfl fun K hK=>?_;go_simp;have q0:=c3.below ((Below.refl _ _).drew);refine(hQ q0.pk.sm i4 (by omega)).mono ?_;rintro e N5 ⟨q4,z0,z3,z4,rfl,z5,q5,k6⟩;have k7:=q0.step z5 q5;have z6:=f5.drew.trans q5;have I3:=k6.le;have e2:=e0.bind k6;have t3:=e2.le;have I4:=k6.fuel i4;obtain⟨I5,I6,I7,N6,i5,f6,z7,t4,I8⟩:=k7.kid q4 (by first | (simp;done) | (simp;omega) | omega);refine hK _ _ ⟨k7.cells.2.2.2.2.2.2.2.2.1,?_⟩;clear hK K
  try simp only[Act.put,q1,q2,q3]
  refine rE 4 rfl fun K hK=>?_;go_simp;refine hK _ _ ⟨(k7.below (below_alloc _ _)).cells.2.2.2.2.2.2.2.2.1,?_⟩;clear hK K
  try simp only[Act.put,q1,q2,q3]
  refine rE 5 rfl fun K hK=>?_;refine a0e rfl (.tmp 57) (.tmp 60) 37 rfl _ _ rfl rfl _ _ i5 ?_;refine hK _ _ ⟨t4,?_⟩;clear hK K i5
  try simp only[Act.put,q1,q2,q3]
  refine rL 6 rfl fun K hK=>?_;go_simp;refine hK _ _ ?_;clear hK K
  try simp only[Act.put,q1,q2,q3]
  refine rL 7 rfl fun K hK=>?_;go_simp;refine hK _ _ ?_;clear hK K
  try simp only[Act.put,q1,q2,q3]
  refine a0h (by kernel_rfl) ?_ _;have z8:=z7 w z6 (by first | exact Nat.le_refl _ | omega);obtain⟨d0,d1,d2,d3,d4,d5,d6,d7,d8,d9⟩:=f6.cells;have dz:=f6.fz;go_wp2_with fail;refine(a0g f6.pk.out (by have:=a0r (V:=V) (p:=z0) (x:=z3) (m:=z4);omega) { op:=40,name:=a2,kids:=c0++[q4],pos:=ps } _ f6.pk.kids (fun _=>f6.pk.far (fun g hg=>h.dl g hg))).mono ?_;rintro e N7 ⟨rfl,z9,A0,A1⟩;have k8:=z8.trans A0;have HR:=hid (e2.last A1);replace HR:=hid (f2.last HR.out);replace HR:=hid (l2.last HR.out);go_wp2;go_ret;exact⟨Int.natCast_nonneg _,_,_,_,_,rfl,z9,k8,HR.out.weak (by omega) (by omega)⟩
 | true=>
 replace c2:SM V src r B _ a3 (a1+1) c1 c9:=c2;have c3:=k3.step c2 g9;have f5:=p9.trans g9;obtain⟨N8,q6,N9,t5⟩:=k5.yes;have e0:=k4.tkT k5;have t2:=e0.le;have H3:=c2.le;have t7:∀ o,c1=some o->V.ts.length-(a1+1)<_:=fun o e=>Nat.lt_of_le_of_lt (by omega) (i4 o e);have hpv:=a0j (m:=c9) q6 t5;have e2:=e0.rest;have t3:=e2.le;have o8:=c3.pk.sm.sp;have H4:=f5.size;have A2:=NV.new (b:=a3.heap.size) c3.pk.sm (by have:=f5.size;omega) { op:=43,pos:=V.pos a1 };have k8:=f5.alloc (.cells (ndA { op:=43,pos:=V.pos a1 } (.slice none 0 0)) 42);have i9:=o8.alloc (.cells (ndA { op:=43,pos:=V.pos a1 } (.slice none 0 0)) 42);have q7:=e2.rest;have I9:=q7.le
 have F5:Lp V 0 (1000*([]:List Int).length) (fun o=>(a0F V (rowF V E) (a1+1) o).bind (fun rs q o=>(lay { op:=43,kids:=rs,pos:=V.pos a1 } q o).bind fun k q o=>lay { op:=40,name:=a2,kids:=c0++[k],pos:=ps } q o)) (fun o=>(a1w V (rowF V E) (V.ts.length+1) [] (a1+1) o).bind (fun rs q o=>(lay { op:=43,kids:=rs,pos:=V.pos a1 } q o).bind fun k q o=>lay { op:=40,name:=a2,kids:=c0++[k],pos:=ps } q o)) (a1+1) c1 c9 (a1+1) c1 c9:=q7;go_wp2_with fail
 go_loopw [] (fun wr=>∃ (ks:List Int) (k q:Nat) (y:Option (List Nd)) (m1:Nat) (va:Option Addr) (vn vc:Nat),NV V src r B (fun g=>D g\/((.slice e9 f0 f1):Value).ownBlock=some g) a3.heap.size wr q y m1 a3.heap.size { op:=43,pos:=V.pos a1 } (.slice va vn vc) ks/\Sp 3 r w wr/\Sp 3 r a3 wr/\Hid (∀ o,y=some o->V.ts.length-q<k)/\Lp V 0 (1000*ks.length) (fun o=>(a0F V (rowF V E) (a1+1) o).bind (fun rs q o=>(lay { op:=43,kids:=rs,pos:=V.pos a1 } q o).bind fun k q o=>lay { op:=40,name:=a2,kids:=c0++[k],pos:=ps } q o)) (fun o=>(a1w V (rowF V E) k ks q o).bind (fun rs q o=>(lay { op:=43,kids:=rs,pos:=V.pos a1 } q o).bind fun k q o=>lay { op:=40,name:=a2,kids:=c0++[k],pos:=ps } q o)) (a1+1) c1 c9 q y m1/\Hid (ks.length<=4100)) (fun wr=>V.ts.length-atN r wr)
 case atStart=>exact⟨[],V.ts.length+1,_,_,_,_,_,_,A2,k8,i9,(fun o _=>by omega:∀ o,c1=some o->V.ts.length-(a1+1)<V.ts.length+1),F5,(by simp:([]:List Int).length<=4100)⟩
 case round=>
 obtain⟨g8,F6,a0,A3,h0,x3,x4,x5,h3,A4,j0,x7,A5,F7⟩:=hrel;have O0:=F7.out;have F8:=h3.pk.sm.atN;have H5:=h3.pk.sm.le;have k9:=A5.listUB x7.out;have J0:=k9.le;have t8:=k9.fuel t7;have q8:=Lp.refl V (rowF V E a0) a0 A3 h0;have J1:=q8.le;have q9:=q8.congr (G':=fun o=>(must V g_lp a0 o).bind fun _ p o=>(a0F V (a1y V E) p o).bind fun ks p o=>(must V g_rp p o).bind fun _ p o=>lay { op:=44,kids:=ks,pos:=V.pos a0 } p o) (fun o _=>b8Z V E a0 o);have J2:=q9.le;go_wp2_with fail;refine(a0C hV h3.pk.sm).mono ?_;rintro e a9 ⟨rfl,l3⟩;have h4:=h3.below l3;have l4:=A4.below l3;have e5:=j0.below l3;have o9:=h4.pk.sm.sp;have H6:=l4.size;have D4:=e5.size
 have r0:=NV.new (b:=a9.heap.size) h4.pk.sm (by have:=l4.size;omega) { op:=44,pos:=V.pos a0 };have A6:=l4.alloc (.cells (ndA { op:=44,pos:=V.pos a0 } (.slice none 0 0)) 42);have j1:=e5.alloc (.cells (ndA { op:=44,pos:=V.pos a0 } (.slice none 0 0)) 42);have j2:=o9.alloc (.cells (ndA { op:=44,pos:=V.pos a0 } (.slice none 0 0)) 42);go_wp2_with fail;refine(a0i hV r0.pk.sm g_lp).mono ?_;rintro e O1 ⟨c4,h5,rfl,A7,h6,l6⟩;have A8:=r0.step A7 h6;have A9:=A6.trans h6;have j3:=j1.trans h6;have j4:=j2.trans h6;have J3:=l6.le;have l7:=q9.bind l6;have J4:=l7.le;have t9:=l6.fuel t8;have r3:=l7.rest;have J5:=r3.le
 have F9:Lp V 0 (1000*([]:List Int).length) (fun o=>(a0F V (a1y V E) c4 o).bind (fun ks p o=>(must V g_rp p o).bind fun _ p o=>lay { op:=44,kids:=ks,pos:=V.pos a0 } p o)) (fun o=>(a1w V (a1y V E) (V.ts.length+1) [] c4 o).bind (fun ks p o=>(must V g_rp p o).bind fun _ p o=>lay { op:=44,kids:=ks,pos:=V.pos a0 } p o)) c4 h5 h0 c4 h5 h0:=r3;go_wp2_with fail
 go_loopw [] (fun wr=>∃ (ks:List Int) (k q:Nat) (y:Option (List Nd)) (m1:Nat) (va:Option Addr) (vn vc:Nat),NV V src r B (fun g=>(fun g=>D g\/((.slice e9 f0 f1):Value).ownBlock=some g) g\/((.slice x3 x4 x5):Value).ownBlock=some g) a9.heap.size wr q y m1 a9.heap.size { op:=44,pos:=V.pos a0 } (.slice va vn vc) ks/\Sp 3 r w wr/\Sp 3 r a3 wr/\Sp 3 r a9 wr/\Hid (∀ o,y=some o->V.ts.length-q<k)/\Lp V 0 (1000*ks.length) (fun o=>(a0F V (a1y V E) c4 o).bind (fun ks p o=>(must V g_rp p o).bind fun _ p o=>lay { op:=44,kids:=ks,pos:=V.pos a0 } p o)) (fun o=>(a1w V (a1y V E) k ks q o).bind (fun ks p o=>(must V g_rp p o).bind fun _ p o=>lay { op:=44,kids:=ks,pos:=V.pos a0 } p o)) c4 h5 h0 q y m1/\Hid (ks.length<=4100)) (fun wr=>V.ts.length-atN r wr)
 case atStart=>exact⟨[],V.ts.length+1,_,_,_,_,_,_,A8,A9,j3,j4,(fun o _=>by omega:∀ o,h5=some o->V.ts.length-c4<V.ts.length+1),F9,(by simp:([]:List Int).length<=4100)⟩
 case round=>
 obtain⟨b3,G0,O2,O3,O4,G1,G2,G3,h7,B0,j5,j6,x8,B1,G4⟩:=hrel;have O5:=G4.out;have G5:=h7.pk.sm.atN;have H7:=h7.pk.sm.le;have l8:=B1.listUB x8.out;have J6:=l8.le;have o3:=l8.fuel t9;go_wp2;refine a0a (S:=(fun W=>W.cell? ⟨a9.heap.size,8,none⟩=some (.slice G1 G2 G3))) (late:=[6,7]) (by kernel_rfl) (by first | exact h7.cells.2.2.2.2.2.2.2.2.1 | go_keep) (fun hHeld=>?_);refine tT 0 rfl hHeld ?_
 try simp only[Act.put,q1,q2,q3]
 refine tL 1 rfl hHeld ?_
 try simp only[Act.put,q1,q2,q3]
 refine tT 2 rfl hHeld ?_
 try simp only[Act.put,q1,q2,q3]
 refine rE 3 rfl fun K hK=>?_;go_simp;have r4:=h7.below ((Below.refl _ _).drew);refine(a7I hV hA r4.pk.sm o3 (by omega)).mono ?_;rintro e O6 ⟨b2,h8,h9,a4,rfl,B2,i0,f7⟩;have l9:=r4.step B2 i0;have B3:=B0.drew.trans i0;have j7:=j5.drew.trans i0;have j8:=j6.drew.trans i0;have J7:=f7.le;have m0:=l8.bind f7;have J8:=m0.le;have o4:=f7.fuel o3;obtain⟨u0,u1,u2,O7,i6,m2,m3,u3,J9⟩:=l9.kid b2 (by first | (simp;done) | (simp;omega) | omega);refine hK _ _ ⟨l9.cells.2.2.2.2.2.2.2.2.1,?_⟩;clear hK K
 try simp only[Act.put,q1,q2,q3]
 refine rE 4 rfl fun K hK=>?_;go_simp;refine hK _ _ ⟨(l9.below (below_alloc _ _)).cells.2.2.2.2.2.2.2.2.1,?_⟩;clear hK K
 try simp only[Act.put,q1,q2,q3]
 refine rE 5 rfl fun K hK=>?_;refine a0e rfl (.tmp 74) (.tmp 77) 37 rfl _ _ rfl rfl _ _ i6 ?_;refine hK _ _ ⟨u3,?_⟩;clear hK K i6
 try simp only[Act.put,q1,q2,q3]
 refine rL 6 rfl fun K hK=>?_;go_simp;refine hK _ _ ?_;clear hK K
 try simp only[Act.put,q1,q2,q3]
 refine rL 7 rfl fun K hK=>?_;go_simp;refine hK _ _ ?_;clear hK K
 try simp only[Act.put,q1,q2,q3]
 refine a0h (by kernel_rfl) ?_ _;have r5:=m3 w B3 (by first | exact Nat.le_refl _ | omega);have e6:=m3 _ j7 (by first | exact Nat.le_refl _ | omega);have e7:=m3 _ j8 (by first | exact Nat.le_refl _ | omega);go_wp2_with fail;refine(a0b hV m2.pk.sm a1c).mono ?_;rintro e r6 ⟨B4,rfl,m4,c5,b5⟩
 cases B4 with
 | true=>
  replace c5:SM V src r B _ r6 (h8+1) h9 a4:=c5;have f8:=m2.step c5 b5;have m5:=r5.trans b5;have b7:=e6.trans b5;have b8:=e7.trans b5;obtain⟨O8,m6,O9,K0⟩:=m4.yes;have f9:=m0.tkT m4;have u4:=f9.le;have H8:=c5.le;have K1:∀ o,h9=some o->V.ts.length-(h8+1)<_:=fun o e=>Nat.lt_of_le_of_lt (by omega) (o4 o e)
  have P0:(b3++[b2]).length=b3.length+1:=by simp
  have x9:=f9.norm m6 (1000*(b3++[b2]).length) (by omega);have P1:=(x9.ok m6).1;have G6:=f8.pk.sm.atN;obtain⟨_,G7,G8⟩:=f7.ok m6;have R5:=x8.out G7 G8;have R6:=f7.up;have B5:=hid ((fun o _=>by omega):∀ o,h9=some o->V.ts.length-(h8+1)<G0-1);have B6:=hid ((by omega):(b3++[b2]).length<=4100);go_wp2;go_roundw
  case rel=>exact⟨_,_,_,_,_,_,_,_,f8,m5,b7,b8,B5,x9,B6⟩
  case measure=>rw[G5,G6];omega
 | false=>
 replace c5:SM V src r B _ r6 h8 h9 a4:=c5;have f8:=m2.step c5 b5;have m5:=r5.trans b5;have b7:=e6.trans b5;have b8:=e7.trans b5;have f9:=m0.tkF m4;have u4:=f9.le;go_wp2_with fail;refine(a0i hV f8.pk.sm g_rp).mono ?_;rintro e P2 ⟨b6,c7,rfl,B7,i1,m7⟩;have m8:=f8.step B7 i1;have B8:=m5.trans i1;have j9:=b7.trans i1;have k0:=b8.trans i1;have K2:=m7.le;have r7:=f9.bind m7;have K3:=r7.le;have u5:=m7.fuel o4;have r8:=r7.congr (G':=fun o=>(lay { op:=44,kids:=(b3++[b2]),pos:=V.pos a0 } b6 o).bind fun a p o=>.ok a p o) (fun _ _=>rfl);have K4:=r8.le;have r9:=h4.step m8.pk.out k0;have u6:=hid (⟨r9.cells.2.2.2.2.2.2.2.2.1,m8.cells⟩:_/\_)
 go_wp2
 refine a0a (S:=(fun W=>W.cell? ⟨a3.heap.size,8,none⟩=some (.slice x3 x4 x5)/\W.cell? ⟨a9.heap.size,0,none⟩=some (.int .i64 ({ op:=44,pos:=V.pos a0 }:Nd).op)/\W.cell? ⟨a9.heap.size,1,none⟩=some (.string ({ op:=44,pos:=V.pos a0 }:Nd).name)/\W.cell? ⟨a9.heap.size,2,none⟩=some (.string ({ op:=44,pos:=V.pos a0 }:Nd).qual)/\W.cell? ⟨a9.heap.size,3,none⟩=some (.int .i64 ({ op:=44,pos:=V.pos a0 }:Nd).n)/\W.cell? ⟨a9.heap.size,4,none⟩=some (.int .i64 ({ op:=44,pos:=V.pos a0 }:Nd).m)/\W.cell? ⟨a9.heap.size,5,none⟩=some (.int .i64 ({ op:=44,pos:=V.pos a0 }:Nd).vk)/\W.cell? ⟨a9.heap.size,6,none⟩=some (.int .i64 ({ op:=44,pos:=V.pos a0 }:Nd).vn)/\W.cell? ⟨a9.heap.size,7,none⟩=some (.string ({ op:=44,pos:=V.pos a0 }:Nd).vs)/\W.cell? ⟨a9.heap.size,8,none⟩=some ((.slice u0 u1 u2))/\W.cell? ⟨a9.heap.size,9,none⟩=some (.int .i64 ({ op:=44,pos:=V.pos a0 }:Nd).pos))) (late:=[7,8]) (by kernel_rfl) (by first | exact u6.out | go_keep) (fun hHeld=>?_)
 refine tT 0 rfl hHeld ?_
 try simp only[Act.put,q1,q2,q3]
 refine tL 1 rfl hHeld ?_
 try simp only[Act.put,q1,q2,q3]
 refine tT 2 rfl hHeld ?_
 try simp only[Act.put,q1,q2,q3]
 refine tL 3 rfl hHeld ?_
 try simp only[Act.put,q1,q2,q3]
 refine rE 4 rfl fun K hK=>?_;go_simp;have g0:=m8.below ((Below.refl _ _).drew);have u7:=r9.below ((Below.refl _ _).drew);refine(a0g g0.pk.out (by have:=a0r (V:=V) (p:=b6) (x:=c7) (m:=a4);omega) { op:=44,kids:=(b3++[b2]),pos:=V.pos a0 } _ g0.pk.kids (fun _=>g0.pk.far (fun g hg=>h4.pk.sm.dl g hg))).mono ?_;rintro e B9 ⟨rfl,C0,i2,m9⟩;have n0:=u7.step C0 i2;have C1:=B8.drew.trans i2;have a5:=hid ((g0.nb.heap i2).trans g0.cell);have k1:=j9.drew.trans i2;have K5:=m9.le;have s0:=r8.bind m9;have K6:=s0.le;have o5:=m9.fuel u5;obtain⟨u8,u9,v0,P3,i7,n1,s5,v1,K7,v2⟩:=n0.kid2 (a4:Int) (by first | (simp;done) | (simp;omega) | omega)
 refine hK _ _ ⟨⟨n0.cells.2.2.2.2.2.2.2.2.1,(cell_of a5.out).1,(cell_of a5.out).1,(cell_of a5.out).1,(cell_of a5.out).1,(cell_of a5.out).1,(cell_of a5.out).1,(cell_of a5.out).1,(cell_of a5.out).1,(cell_of a5.out).1,(cell_of a5.out).1⟩,?_⟩;clear hK K
 try simp only[Act.put,q1,q2,q3]
 have a6:=hid (((below_alloc B9 (.cells #[.int .i64 (a4:Int)] 3)).block _ (Array.getElem?_eq_some_iff.1 a5.out).1).trans a5.out);refine rE 5 rfl fun K hK=>?_;go_simp;refine hK _ _ ⟨⟨(n0.below (below_alloc _ _)).cells.2.2.2.2.2.2.2.2.1,(cell_of a6.out).1,(cell_of a6.out).1,(cell_of a6.out).1,(cell_of a6.out).1,(cell_of a6.out).1,(cell_of a6.out).1,(cell_of a6.out).1,(cell_of a6.out).1,(cell_of a6.out).1,(cell_of a6.out).1⟩,?_⟩;clear hK K
 try simp only[Act.put,q1,q2,q3]
 have b0:=hid ((v2 _ ⟨_,_,a6.out⟩).trans a6.out);refine rE 6 rfl fun K hK=>?_;refine a0e rfl (.tmp 86) (.tmp 90) 37 rfl _ _ rfl rfl _ _ i7 ?_;refine hK _ _ ⟨⟨v1,(cell_of b0.out).1,(cell_of b0.out).1,(cell_of b0.out).1,(cell_of b0.out).1,(cell_of b0.out).1,(cell_of b0.out).1,(cell_of b0.out).1,(cell_of b0.out).1,(cell_of b0.out).1,(cell_of b0.out).1⟩,?_⟩;clear hK K i7
 try simp only[Act.put,q1,q2,q3]
 refine rL 7 rfl fun K hK=>?_;go_simp;refine hK _ _ ?_;clear hK K
 try simp only[Act.put,q1,q2,q3]
 refine rL 8 rfl fun K hK=>?_;go_simp;refine hK _ _ ?_;clear hK K
 try simp only[Act.put,q1,q2,q3]
 refine a0h (by kernel_rfl) ?_ _;have s6:=s5 w C1 (by first | exact Nat.le_refl _ | omega);have e8:=s5 _ k1 (by first | exact Nat.le_refl _ | omega);have i3:=((l7.comp s0).done (a:=(a4:Int)) (fun _ _=>rfl)).weak (d':=14) (c':=506) (by omega) (by omega);have K8:=i3.le;have n2:=k9.bind i3;have K9:=n2.le;go_wp2_with fail;refine(a0b hV n1.pk.sm a1c).mono ?_;rintro e s7 ⟨C2,rfl,n3,c8,e3⟩
 cases C2 with
 | true=>
  replace c8:SM V src r B _ s7 (b6+1) (Option.map (·++[{ op:=44,kids:=(b3++[b2]),pos:=V.pos a0 }]) (c7)) (a4+1):=c8;have e4:=n1.step c8 e3;have n4:=s6.trans e3;have b9:=e8.trans e3;obtain⟨P4,n5,P5,L0⟩:=n3.yes;have g4:=n2.tkT n3;have v3:=g4.le;have H9:=c8.le;have L1:∀ o,(Option.map (·++[{ op:=44,kids:=(b3++[b2]),pos:=V.pos a0 }]) (c7))=some o->V.ts.length-(b6+1)<_:=fun o e=>Nat.lt_of_le_of_lt (by omega) (o5 o e)
  have P6:(g8++[(a4:Int)]).length=g8.length+1:=by simp
  have y0:=g4.norm n5 (1000*(g8++[(a4:Int)]).length) (by omega);have P7:=(y0.ok n5).1;have G9:=e4.pk.sm.atN;obtain⟨_,H0,H1⟩:=i3.ok n5;have R7:=x7.out H0 H1;have R8:=i3.up;have C3:=hid ((fun o _=>by omega):∀ o,(Option.map (·++[{ op:=44,kids:=(b3++[b2]),pos:=V.pos a0 }]) (c7))=some o->V.ts.length-(b6+1)<F6-1);have C4:=hid ((by omega):(g8++[(a4:Int)]).length<=4100);go_wp2;go_roundw
  case rel=>exact⟨_,_,_,_,_,_,_,_,e4,n4,b9,C3,y0,C4⟩
  case measure=>rw[F8,G9];omega
 | false=>
 replace c8:SM V src r B _ s7 b6 (Option.map (·++[{ op:=44,kids:=(b3++[b2]),pos:=V.pos a0 }]) (c7)) (a4+1):=c8;have e4:=n1.step c8 e3;have n4:=s6.trans e3;have b9:=e8.trans e3;have g4:=n2.tkF n3;have v3:=g4.le;have s8:=c3.step e4.pk.out b9;have v4:=hid (⟨s8.cells.2.2.2.2.2.2.2.2.1,e4.cells⟩:_/\_);go_wp2
 refine a0a (S:=(fun W=>W.cell? ⟨w2.heap.size,8,none⟩=some (.slice e9 f0 f1)/\W.cell? ⟨a3.heap.size,0,none⟩=some (.int .i64 ({ op:=43,pos:=V.pos a1 }:Nd).op)/\W.cell? ⟨a3.heap.size,1,none⟩=some (.string ({ op:=43,pos:=V.pos a1 }:Nd).name)/\W.cell? ⟨a3.heap.size,2,none⟩=some (.string ({ op:=43,pos:=V.pos a1 }:Nd).qual)/\W.cell? ⟨a3.heap.size,3,none⟩=some (.int .i64 ({ op:=43,pos:=V.pos a1 }:Nd).n)/\W.cell? ⟨a3.heap.size,4,none⟩=some (.int .i64 ({ op:=43,pos:=V.pos a1 }:Nd).m)/\W.cell? ⟨a3.heap.size,5,none⟩=some (.int .i64 ({ op:=43,pos:=V.pos a1 }:Nd).vk)/\W.cell? ⟨a3.heap.size,6,none⟩=some (.int .i64 ({ op:=43,pos:=V.pos a1 }:Nd).vn)/\W.cell? ⟨a3.heap.size,7,none⟩=some (.string ({ op:=43,pos:=V.pos a1 }:Nd).vs)/\W.cell? ⟨a3.heap.size,8,none⟩=some ((.slice u8 u9 v0))/\W.cell? ⟨a3.heap.size,9,none⟩=some (.int .i64 ({ op:=43,pos:=V.pos a1 }:Nd).pos))) (late:=[7,8]) (by kernel_rfl) (by first | exact v4.out | go_keep) (fun hHeld=>?_)
 refine tT 0 rfl hHeld ?_
 try simp only[Act.put,q1,q2,q3]
 refine tL 1 rfl hHeld ?_
 try simp only[Act.put,q1,q2,q3]
 refine tT 2 rfl hHeld ?_
 try simp only[Act.put,q1,q2,q3]
 refine tL 3 rfl hHeld ?_
 try simp only[Act.put,q1,q2,q3]
 refine rE 4 rfl fun K hK=>?_;go_simp;have g5:=e4.below ((Below.refl _ _).drew);have v5:=s8.below ((Below.refl _ _).drew);refine(a0g g5.pk.out (by have:=a0r (V:=V) (p:=b6) (x:=(Option.map (·++[{ op:=44,kids:=(b3++[b2]),pos:=V.pos a0 }]) (c7))) (m:=(a4+1));omega) { op:=43,kids:=(g8++[(a4:Int)]),pos:=V.pos a1 } _ g5.pk.kids (fun _=>g5.pk.far (fun g hg=>c3.pk.sm.dl g hg))).mono ?_;rintro e C5 ⟨rfl,C6,n6,n7⟩;have n8:=v5.step C6 n6;have C7:=n4.drew.trans n6;have a7:=hid ((g5.nb.heap n6).trans g5.cell);have L2:=n7.le;have s9:=g4.bind n7;have L3:=s9.le;have L4:=n7.fuel o5;obtain⟨L5,L6,L7,P8,i8,g6,C8,v6,L8,v7⟩:=n8.kid2 ((a4+1):Int) (by first | (simp;done) | (simp;omega) | omega)
 refine hK _ _ ⟨⟨n8.cells.2.2.2.2.2.2.2.2.1,(cell_of a7.out).1,(cell_of a7.out).1,(cell_of a7.out).1,(cell_of a7.out).1,(cell_of a7.out).1,(cell_of a7.out).1,(cell_of a7.out).1,(cell_of a7.out).1,(cell_of a7.out).1,(cell_of a7.out).1⟩,?_⟩;clear hK K
 try simp only[Act.put,q1,q2,q3]
 have a8:=hid (((below_alloc C5 (.cells #[.int .i64 ((a4+1):Int)] 3)).block _ (Array.getElem?_eq_some_iff.1 a7.out).1).trans a7.out);refine rE 5 rfl fun K hK=>?_;go_simp;refine hK _ _ ⟨⟨(n8.below (below_alloc _ _)).cells.2.2.2.2.2.2.2.2.1,(cell_of a8.out).1,(cell_of a8.out).1,(cell_of a8.out).1,(cell_of a8.out).1,(cell_of a8.out).1,(cell_of a8.out).1,(cell_of a8.out).1,(cell_of a8.out).1,(cell_of a8.out).1,(cell_of a8.out).1⟩,?_⟩;clear hK K
 try simp only[Act.put,q1,q2,q3]
 have b1:=hid ((v7 _ ⟨_,_,a8.out⟩).trans a8.out);refine rE 6 rfl fun K hK=>?_;refine a0e rfl (.tmp 97) (.tmp 101) 37 rfl _ _ rfl rfl _ _ i8 ?_;refine hK _ _ ⟨⟨v6,(cell_of b1.out).1,(cell_of b1.out).1,(cell_of b1.out).1,(cell_of b1.out).1,(cell_of b1.out).1,(cell_of b1.out).1,(cell_of b1.out).1,(cell_of b1.out).1,(cell_of b1.out).1,(cell_of b1.out).1⟩,?_⟩;clear hK K i8
 try simp only[Act.put,q1,q2,q3]
 refine rL 7 rfl fun K hK=>?_;go_simp;refine hK _ _ ?_;clear hK K
 try simp only[Act.put,q1,q2,q3]
 refine rL 8 rfl fun K hK=>?_;go_simp;refine hK _ _ ?_;clear hK K
 try simp only[Act.put,q1,q2,q3]
 refine a0h (by kernel_rfl) ?_ _;have C9:=C8 w C7 (by first | exact Nat.le_refl _ | omega);obtain⟨d0,d1,d2,d3,d4,d5,d6,d7,d8,d9⟩:=g6.cells;have dz:=g6.fz;go_wp2_with fail;refine(a0g g6.pk.out (by have:=a0r (V:=V) (p:=b6) (x:=(Option.map (·++[{ op:=43,kids:=(g8++[(a4:Int)]),pos:=V.pos a1 }]) ((Option.map (·++[{ op:=44,kids:=(b3++[b2]),pos:=V.pos a0 }]) (c7))))) (m:=((a4+1)+1));omega) { op:=40,name:=a2,kids:=c0++[((a4+1):Int)],pos:=ps } _ g6.pk.kids (fun _=>g6.pk.far (fun g hg=>h.dl g hg))).mono ?_;rintro e P9 ⟨rfl,D0,D1,D2⟩;have D3:=C9.trans D1;have HR:=hid (s9.last D2);replace HR:=hid (e2.last HR.out);replace HR:=hid (e0.lastS q6 HR.out);replace HR:=hid (f2.last HR.out);replace HR:=hid (l2.last HR.out);go_wp2;go_ret
 exact⟨Int.natCast_nonneg _,_,_,_,_,rfl,D0,D3,HR.out.weak (by omega) (by omega)⟩
def CN (B:Nat) (w:World) (cs:List Value) (t:Nd):Prop:=∃ kv,cs=ndC t kv/\RS 1 CI B w kv t.kids
theorem a5W:Lies 10 CN:=⟨fun⟨_,h,_⟩=>by rw[h];rfl,fun⟨kv,h,r⟩ hd=>⟨kv,h,r.mono a5P hd⟩,fun⟨kv,h,r⟩ hb=>⟨kv,h,r.below a5P hb⟩,fun⟨kv,h,r⟩ hc=>⟨kv,h,r.set a5P hc⟩⟩
theorem NR.at {w:World} {D:Nat->Prop}:∀ {xs:List Value} {o:List Nd} {ks:List Value},NR w D xs o ks->∀ i (h:i<o.length),∃ kv,(∀ j,j<10->xs[i*10+j]?=(ndC o[i] kv)[j]?)/\KS w kv o[i].kids
 | _,[],[],h,i,hi=>absurd hi (by simp)
 | _,t::r,kv::ks,⟨ys,a,b,d,c⟩,i,hi=>by
  subst a
  cases i with
  | zero=>exact⟨kv,fun j hj=>by rw[Nat.zero_mul,Nat.zero_add,List.getElem?_append_left (by simp[ndC];omega)];rfl,b⟩
  | succ i=>
  obtain⟨kv',h1,h2⟩:=NR.at c i (by simpa using hi);refine⟨kv',fun j hj=>?_,h2⟩;rw[List.getElem?_append_right (by simp[ndC];omega)]
  have:(i+1)*10+j-(ndC t kv).length=i*10+j:=by simp[ndC];omega
  rw[this];exact h1 j hj
 | _,[],_::_,h,_,_=>h.elim
 | _,_::_,[],h,_,_=>h.elim
theorem NO.nr {w:World} {B:Nat} {D:Nat->Prop}:∀ {xs:List Value} {o:List Nd} {ks:List Value},NO w B D xs o ks->NR w D xs o ks
 | _,[],[],h=>h
 | _,t::r,kv::ks,⟨ys,a,b,d,e,c⟩=>⟨ys,a,KS.own b,fun _=>d,NO.nr c⟩
 | _,[],_::_,h=>h.elim
 | _,_::_,[],h=>h.elim
theorem b1k {w:World} {B:Nat} {D:Nat->Prop} {v:Value} {xs ks:List Value} {o:List Nd} (ho:w.ownsRow B 42 10 v o.length xs) (hn:NR w D xs o ks):RS 10 CN 0 w v o:=by
 obtain⟨a,c,rfl⟩:=a2c ho;refine⟨a,c,rfl,fun hp=>?_⟩;have hlt:=ho.lt;obtain⟨h1,h2⟩:=ho;rcases h2 with⟨_,h0⟩ | ⟨g,cap,cur,e,a1,a0,a2⟩
 .omega
 simp only[Value.slice.injEq] at e;obtain⟨rfl,_,rfl⟩:=e;refine⟨g,0,rfl,Nat.zero_le _,(Array.getElem?_eq_some_iff.1 a0).1,fun i hi=>?_⟩;obtain⟨kv,k1,k2⟩:=hn.at i hi;refine⟨ndC o[i] kv,⟨kv,rfl,k2.1⟩,fun j hj=>?_⟩;have:=k1 j hj;rw[Nat.zero_add,<- this];obtain⟨u,hu⟩:∃ u,(ndC o[i] kv)[j]?=some u:=⟨_,List.getElem?_eq_getElem (show j<(ndC _ kv).length from hj)⟩;rw[hu] at this;rw[this];exact a1M (⟨h1,.inr ⟨g,c,cur,rfl,a1,a0,a2⟩⟩:w.ownsRow B 42 10 _ o.length xs) this
structure TR (w:World) (B:Nat) (v:Value) (o:List Nd) (xs ks:List Value):Prop where
  row:w.ownsRow B 42 10 v o.length xs
  no:NO w B (fun _=>False) xs o ks
theorem TR.rs {w:World} {B:Nat} {v:Value} {o:List Nd} {xs ks:List Value} (h:TR w B v o xs ks):RS 10 CN 0 w v o:=b1k h.row h.no.nr
theorem TR.below {w w':World} {B:Nat} {v:Value} {o:List Nd} {xs ks:List Value} (h:TR w B v o xs ks) (hb:Below w.heap.size w w'):TR w' B v o xs ks:=
  ⟨own_below h.row hb,h.no.keep hb.size (fun g hg _=>hb.block g (a0x hg))⟩
theorem a8a (k n:Int) (s:ByteArray) (w:World):Calls prog 81 #[.agg #[.int .i64 k,.int .i64 n,.string s],.agg #[.int .i64 k,.int .i64 n,.string s]] w fun e w'=>e=.returned (.bool true)/\Below w.heap.size w w':=by
 go_enter func81,ntmps81;go_wp2;go_ret;exact⟨rfl,by first | exact Below.refl _ _ | (go_light;repeat (first | with_reducible assumption | with_reducible exact Below.refl _ _ | (with_reducible refine Below.setCell ?_ ?_ _;rotate_left;(focus first | (simp;done) | (simp;omega) | omega)) | (with_reducible refine Below.alloc ?_ ?_ _;rotate_left;(focus first | (simp;done) | (simp;omega) | omega)) | with_reducible refine Below.drew ?_))⟩
theorem b0y (ks:List Int) (u v:Value) (w:World) (hn:ks.length<=4611686018427387904) (hu:RS 1 CI 0 w u ks) (hv:RS 1 CI 0 w v ks):Calls prog 82 #[u,v] w fun e w'=>e=.returned (.bool true)/\Below w.heap.size w w':=by
 obtain⟨a,c,hae⟩:∃ a c,u=.slice a ks.length c:=by obtain⟨a,c,e,_⟩:=hu;exact⟨a,c,e⟩
 obtain⟨b,d,hbe⟩:∃ a c,v=.slice a ks.length c:=by obtain⟨a,c,e,_⟩:=hv;exact⟨a,c,e⟩
 subst hae;subst hbe;go_enter func82,ntmps82;go_wp2;go_loopw [5] (fun iv wr=>∃ i:Nat,i<=ks.length/\iv=.int .i64 i/\Below w.heap.size w wr) (fun iv _=>ks.length-(intOf iv).toNat)
 case atStart=>exact⟨0,Nat.zero_le _,rfl,Below.refl _ _⟩
 case round=>
 obtain⟨i,hi,rfl,hb⟩:=hrel;by_cases hlt:i<ks.length
 .have hlti:(i:Int)<ks.length:=by omega
  obtain⟨_,_,he,hcu⟩:=hu.below a5P hb;obtain⟨_,_,he',hcv⟩:=hv.below a5P hb;cases he;cases he';obtain⟨g,o,rfl,_,hg,hcu⟩:=hcu (by omega);obtain⟨g',o',rfl,_,hg',hcv⟩:=hcv (by omega);obtain⟨cs,hc,h1⟩:=hcu i hlt;obtain⟨cs',hc',h2⟩:=hcv i hlt;unfold CI at hc hc';subst hc;subst hc';have x1:=h1 0 (by omega);have x2:=h2 0 (by omega);simp only[Nat.mul_one,Nat.add_zero,List.getElem?_cons_zero] at x1 x2;clear h1 h2 hcu hcv hu hv;generalize ks[i]=x at *
  have hxx:((x:Int) != x)=false:=by simp
  go_wp2;go_quiet (fail);have a0:=hb.trans ((a0J wr nq).mono hb.size);go_wp2;go_roundw
  case rel=>exact⟨i+1,by omega,by go_num,a0⟩
  case measure=>simp[intOf];omega
 have hin:i=ks.length:=by omega
 subst hin
 have hlti:¬ (ks.length:Int)<ks.length:=by omega
 go_wp2;go_ret;exact⟨rfl,hb⟩
end Go.Proofs.YtphmpkpcamgjeaaGreatDoor
