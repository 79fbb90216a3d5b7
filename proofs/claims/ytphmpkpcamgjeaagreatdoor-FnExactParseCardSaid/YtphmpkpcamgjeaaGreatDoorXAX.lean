import Derived.Test.YtphmpkpcamgjeaaGreatDoorXAA
import Derived.Test.YtphmpkpcamgjeaaGreatDoorXAW
set_option linter.unusedVariables false
set_option linter.unusedSimpArgs false
set_option maxRecDepth 100000
set_option maxHeartbeats 16000000
namespace Go.Proofs.YtphmpkpcamgjeaaGreatDoor
open Go.ChangeShapes Go.WideShapes Go.ChangeAt Go.RowKit Go.Proofs.Tryz
open Go.Maps
def litV (V:Env):M (Option (Int×Int×ByteArray)):=fun p o=>
  if V.kd p==3 then .ok (some (1,V.ri (V.tx p),⟨#[]⟩)) (p+1) o
  else if V.kd p==4 then .ok (some (2,V.rd (V.tx p),⟨#[]⟩)) (p+1) o
  else if V.kd p==5 then .ok (some (3,0,V.tx p)) (p+1) o
  else if sees V p k_true then .ok (some (4,1,⟨#[]⟩)) (p+1) o
  else if sees V p a2A then .ok (some (4,0,⟨#[]⟩)) (p+1) o
  else if sees V p a3p then(dayV V (p+1) o).bind fun v q o=>.ok (some v) q o
  else if sees V p a1h then .ok (some (0,0,⟨#[]⟩)) (p+1) o
  else .ok none p o
abbrev vLit:Option (Int×Int×ByteArray)->Value
 | some v=>.tuple #[vVal v,.bool true]
 | none=>.tuple #[vVal (0,0,⟨#[]⟩),.bool false]
section
variable {V : Env} {Mx : DataW Unit} {r B : Nat} {D : Nat -> Prop} {w : World} {p : Nat} {o : List Nd} {m : Nat} {E Q : M Int}
theorem b3t (hV:IV V Mx) (hX:IX V) (h:IM V Mx r B D w p o) :
 Calls prog 208 #[.pointer (some ⟨r,0,none⟩)] w fun e w'=>IPost V Mx r B D vLit (litV V p o) w e w':=by
 have hT:=hV.n;have hle:=h.le
 have m7:(p:Int)<=2000:=by omega
 obtain⟨G,h3⟩:∃ G,G=litV V p o:=⟨_,rfl⟩;have HG:=hid h3;rw[<- h3];clear h3;have h0:=h.alloc (.cells #[.int .i64 0,.int .i64 0,.string ⟨#[]⟩] 40);have z0:=h.sp.alloc (.cells #[.int .i64 0,.int .i64 0,.string ⟨#[]⟩] 40);have j5:(w.alloc (.cells #[.int .i64 0,.int .i64 0,.string ⟨#[]⟩] 40)).heap[w.heap.size]?=some (.cells #[.int .i64 0,.int .i64 0,.string ⟨#[]⟩] 40 (0,0)):=heap_alloc_new _ _;go_enter func208,ntmps208;go_wp2_with fail;refine(a2Z hV h0 0 (by omega)).mono ?_;rintro e w1 ⟨rfl,b1⟩;have h1:=h0.below b1;have z1:=z0.trans (h0.spB b1);have l5:=b1.size
 have m8:w.heap.size+1<=w1.heap.size:=by simpa using l5
 have e1:w1.heap[w.heap.size]?=some (.cells #[.int .i64 0,.int .i64 0,.string ⟨#[]⟩] 40 (0,0)):=(b1.block w.heap.size (by simp)).trans j5
 have HQ:=hid (fun(hh:V.kd p≠0)=>show p<V.ts.length from by
  rcases Nat.lt_or_ge p V.ts.length with z | z
  .exact z
  exact absurd (Env.tk_out (V:=V) z).1 hh)
 have hci:=hX.ci p;have hcd:=hX.cd p;have HU:=hid (HG.out.trans (show litV V p o=(if V.kd p==3 then .ok (some (1,V.ri (V.tx p),⟨#[]⟩)) (p+1) o else if V.kd p==4 then .ok (some (2,V.rd (V.tx p),⟨#[]⟩)) (p+1) o else if V.kd p==5 then .ok (some (3,0,V.tx p)) (p+1) o else if sees V p k_true then .ok (some (4,1,⟨#[]⟩)) (p+1) o else if sees V p a2A then .ok (some (4,0,⟨#[]⟩)) (p+1) o else if sees V p a3p then(dayV V (p+1) o).bind fun v q o=>.ok (some v) q o else if sees V p a1h then .ok (some (0,0,⟨#[]⟩)) (p+1) o else .ok none p o) from rfl))
 have HST:∀ s,sees V p s=true->V.kd p≠0/\(V.tx p).toList=s.toList:=fun s hs=>⟨by rcases a8y hs with z | z<;>rw[z]<;>decide,a5B hs⟩
 simp only[Nat.add_zero];generalize hri:V.ri (V.tx p)=ri at *;generalize hrd:V.rd (V.tx p)=rd at *;generalize hkd:V.kd p=kd at *;generalize htx:V.tx p=tx at *;generalize hps:V.pos p=ps at *;clear hri hrd hkd htx hps;have h2:=(h1.alloc (.cells #[.int .i64 kd,.string tx,.int .i64 ps] 50)).alloc (.cells #[.int .i64 0,.int .i64 0,.string ⟨#[]⟩] 40);have s2:=(z1.alloc (.cells #[.int .i64 kd,.string tx,.int .i64 ps] 50)).alloc (.cells #[.int .i64 0,.int .i64 0,.string ⟨#[]⟩] 40);have j6:=(below_alloc w1 (.cells #[.int .i64 kd,.string tx,.int .i64 ps] 50)).alloc (by simp) (.cells #[.int .i64 0,.int .i64 0,.string ⟨#[]⟩] 40)
 have d8:((w1.alloc (.cells #[.int .i64 kd,.string tx,.int .i64 ps] 50)).alloc (.cells #[.int .i64 0,.int .i64 0,.string ⟨#[]⟩] 40)).heap[w.heap.size]?=some (.cells #[.int .i64 0,.int .i64 0,.string ⟨#[]⟩] 40 (0,0)):=(j6.block w.heap.size (by omega)).trans e1;have c7:((w1.alloc (.cells #[.int .i64 kd,.string tx,.int .i64 ps] 50)).alloc (.cells #[.int .i64 0,.int .i64 0,.string ⟨#[]⟩] 40)).heap[w1.heap.size]?=some (.cells #[.int .i64 kd,.string tx,.int .i64 ps] 50 (0,0)):=((below_alloc _ _).block w1.heap.size (by simp)).trans (heap_alloc_new _ _)
 have d9:((w1.alloc (.cells #[.int .i64 kd,.string tx,.int .i64 ps] 50)).alloc (.cells #[.int .i64 0,.int .i64 0,.string ⟨#[]⟩] 40)).heap[w1.heap.size+1]?=some (.cells #[.int .i64 0,.int .i64 0,.string ⟨#[]⟩] 40 (0,0)):=by
  have:=heap_alloc_new (w1.alloc (.cells #[.int .i64 kd,.string tx,.int .i64 ps] 50)) (.cells #[.int .i64 0,.int .i64 0,.string ⟨#[]⟩] 40);simpa using this
 have m9:=h1.rl
 have ntg:w.heap.size≠w1.heap.size+1:=by omega
 have ntr:r≠w1.heap.size+1:=by omega
 have nrg:r≠w.heap.size:=fun e=>by have:=h.rl;omega
 have h4:((w1.alloc (.cells #[.int .i64 kd,.string tx,.int .i64 ps] 50)).alloc (.cells #[.int .i64 0,.int .i64 0,.string ⟨#[]⟩] 40)).cell? ⟨w1.heap.size,0,none⟩=some (.int .i64 kd):=(cell_of c7).1;have h5:((w1.alloc (.cells #[.int .i64 kd,.string tx,.int .i64 ps] 50)).alloc (.cells #[.int .i64 0,.int .i64 0,.string ⟨#[]⟩] 40)).cell? ⟨w1.heap.size,1,none⟩=some (.string tx):=(cell_of c7).1;clear j5 e1 j6
 cases f9:kd==3 with
 | true=>
  have HF:=hid (HU.out.trans (if_pos f9))
  have a7:kd≠0:=by intro z;rw[z] at f9;simp at f9
  have hpl:=HQ.out a7
  have hkk:kd=3:=by simpa using f9
  have HCC:=hid (hci hkk);clear hkk hci hcd;go_wp2_with fail;refine(HCC.out _).mono ?_;rintro e e3 ⟨rfl,h6⟩;have e4:=h2.spB h6;have h7:=h2.below h6;have b5:=((h2.nb ⟨_,_,d8⟩ (by decide) (by decide)).heap e4).trans d8;have l6:=((h2.nb ⟨_,_,c7⟩ (by decide) (by decide)).heap e4).trans c7;have c8:=((h2.nb ⟨_,_,d9⟩ (by decide) (by decide)).heap e4).trans d9;have k5:=s2.trans e4;clear h4 h5;obtain⟨ta,tc,mb,oa,oc,c0,g0,c2,c3,c4,fz,_,_⟩:=h7.cells;have g1:=fz 1;clear c0 c2 c3 c4 fz;have a4:=(cell_of b5 (j:=0)).1;have a5:=(cell_of b5 (j:=1)).1;have a6:=(cell_of b5 (j:=2)).1;have cgz:∀ j,e3.frozen? ⟨w.heap.size,j,none⟩=false:=fun j=>(cell_of b5).2;simp only[List.getElem?_toArray,List.getElem?_cons_succ,List.getElem?_cons_zero] at a4 a5 a6
  have b0:=(cell_of c8 (j:=0)).1;have b2:=(cell_of c8 (j:=1)).1;have b3:=(cell_of c8 (j:=2)).1;have cvz:∀ j,e3.frozen? ⟨(w1.heap.size+1),j,none⟩=false:=fun j=>(cell_of c8).2;simp only[List.getElem?_toArray,List.getElem?_cons_succ,List.getElem?_cons_zero] at b0 b2 b3;have te:tag e3 (w1.heap.size+1) 40:=⟨_,_,c8⟩;have tg:tag e3 w.heap.size 40:=⟨_,_,b5⟩
  have hfin:=(((((((h7.setV (c:=w1.heap.size+1) (j:=0) (.int .i64 1) te).setV (c:=w1.heap.size+1) (j:=1) (.int .i64 ri) (a0d (.int .i64 1) te)).setV (c:=w1.heap.size+1) (j:=2) (.string ⟨#[]⟩) (a0d (.int .i64 ri) (a0d (.int .i64 1) te))).at (q:=p+1) (by omega) (z:=(p:Int)+1) rfl).setV (c:=w.heap.size) (j:=0) (.int .i64 1) (a0d (.int .i64 ((p:Int)+1)) (a0d (.string ⟨#[]⟩) (a0d (.int .i64 ri) (a0d (.int .i64 1) tg))))).setV (c:=w.heap.size) (j:=1) (.int .i64 ri) (a0d (.int .i64 1) (a0d (.int .i64 ((p:Int)+1)) (a0d (.string ⟨#[]⟩) (a0d (.int .i64 ri) (a0d (.int .i64 1) tg)))))).setV (c:=w.heap.size) (j:=2) (.string ⟨#[]⟩) (a0d (.int .i64 ri) (a0d (.int .i64 1) (a0d (.int .i64 ((p:Int)+1)) (a0d (.string ⟨#[]⟩) (a0d (.int .i64 ri) (a0d (.int .i64 1) tg)))))))
  have sfin:=(((((((k5.set (c:=w1.heap.size+1) (j:=0) (.int .i64 1) (by omega)).set (c:=w1.heap.size+1) (j:=1) (.int .i64 ri) (by omega)).set (c:=w1.heap.size+1) (j:=2) (.string ⟨#[]⟩) (by omega)).setR (j:=1) (.int .i64 ((p:Int)+1)) (by decide)).set (c:=w.heap.size) (j:=0) (.int .i64 1) (Nat.le_refl _)).set (c:=w.heap.size) (j:=1) (.int .i64 ri) (Nat.le_refl _)).set (c:=w.heap.size) (j:=2) (.string ⟨#[]⟩) (Nat.le_refl _))
  obtain⟨k0,k1,k2⟩:=fc3 (set3 ((heap_setCell_other _ ⟨r,1,none⟩ w.heap.size (.int .i64 ((p:Int)+1)) (Ne.symm nrg)).trans ((heap_setCell_other _ ⟨w1.heap.size+1,2,none⟩ w.heap.size (.string ⟨#[]⟩) ntg).trans ((heap_setCell_other _ ⟨w1.heap.size+1,1,none⟩ w.heap.size (.int .i64 ri) ntg).trans ((heap_setCell_other _ ⟨w1.heap.size+1,0,none⟩ w.heap.size (.int .i64 1) ntg).trans b5)))) (.int .i64 1) (.int .i64 ri) (.string ⟨#[]⟩));go_wp2;refine bodyPost_ret (v:=vLit (some (1,ri,⟨#[]⟩))) (by simp[results,results208,go_sem,k0,k1,k2]) rfl ?_;exact IPost.ok HF.out rfl hfin sfin
 | false=>
 have j7:=hid (HU.out.trans (if_neg (by rw[f9];simp)))
 cases g2:kd==4 with
 | true=>
  have HF:=hid (j7.out.trans (if_pos g2))
  have a7:kd≠0:=by intro z;rw[z] at g2;simp at g2
  have hpl:=HQ.out a7
  have hkk:kd=4:=by simpa using g2
  have HCC:=hid (hcd hkk);clear hkk hci hcd;go_wp2_with fail;refine(HCC.out _ h2.ml).mono ?_;rintro e e5 ⟨rfl,h8⟩;have e6:=h2.spB h8;have h9:=h2.below h8;have b6:=((h2.nb ⟨_,_,d8⟩ (by decide) (by decide)).heap e6).trans d8;have l7:=((h2.nb ⟨_,_,c7⟩ (by decide) (by decide)).heap e6).trans c7;have c9:=((h2.nb ⟨_,_,d9⟩ (by decide) (by decide)).heap e6).trans d9;have k6:=s2.trans e6;clear h4 h5;obtain⟨ta,tc,mb,oa,oc,c0,g0,c2,c3,c4,fz,_,_⟩:=h9.cells;have g1:=fz 1;clear c0 c2 c3 c4 fz;have a4:=(cell_of b6 (j:=0)).1;have a5:=(cell_of b6 (j:=1)).1;have a6:=(cell_of b6 (j:=2)).1;have cgz:∀ j,e5.frozen? ⟨w.heap.size,j,none⟩=false:=fun j=>(cell_of b6).2;simp only[List.getElem?_toArray,List.getElem?_cons_succ,List.getElem?_cons_zero] at a4 a5 a6
  have b0:=(cell_of c9 (j:=0)).1;have b2:=(cell_of c9 (j:=1)).1;have b3:=(cell_of c9 (j:=2)).1;have cvz:∀ j,e5.frozen? ⟨(w1.heap.size+1),j,none⟩=false:=fun j=>(cell_of c9).2;simp only[List.getElem?_toArray,List.getElem?_cons_succ,List.getElem?_cons_zero] at b0 b2 b3;have te:tag e5 (w1.heap.size+1) 40:=⟨_,_,c9⟩;have tg:tag e5 w.heap.size 40:=⟨_,_,b6⟩
  have hfin:=(((((((h9.setV (c:=w1.heap.size+1) (j:=0) (.int .i64 2) te).setV (c:=w1.heap.size+1) (j:=1) (.int .i64 rd) (a0d (.int .i64 2) te)).setV (c:=w1.heap.size+1) (j:=2) (.string ⟨#[]⟩) (a0d (.int .i64 rd) (a0d (.int .i64 2) te))).at (q:=p+1) (by omega) (z:=(p:Int)+1) rfl).setV (c:=w.heap.size) (j:=0) (.int .i64 2) (a0d (.int .i64 ((p:Int)+1)) (a0d (.string ⟨#[]⟩) (a0d (.int .i64 rd) (a0d (.int .i64 2) tg))))).setV (c:=w.heap.size) (j:=1) (.int .i64 rd) (a0d (.int .i64 2) (a0d (.int .i64 ((p:Int)+1)) (a0d (.string ⟨#[]⟩) (a0d (.int .i64 rd) (a0d (.int .i64 2) tg)))))).setV (c:=w.heap.size) (j:=2) (.string ⟨#[]⟩) (a0d (.int .i64 rd) (a0d (.int .i64 2) (a0d (.int .i64 ((p:Int)+1)) (a0d (.string ⟨#[]⟩) (a0d (.int .i64 rd) (a0d (.int .i64 2) tg)))))))
  have sfin:=(((((((k6.set (c:=w1.heap.size+1) (j:=0) (.int .i64 2) (by omega)).set (c:=w1.heap.size+1) (j:=1) (.int .i64 rd) (by omega)).set (c:=w1.heap.size+1) (j:=2) (.string ⟨#[]⟩) (by omega)).setR (j:=1) (.int .i64 ((p:Int)+1)) (by decide)).set (c:=w.heap.size) (j:=0) (.int .i64 2) (Nat.le_refl _)).set (c:=w.heap.size) (j:=1) (.int .i64 rd) (Nat.le_refl _)).set (c:=w.heap.size) (j:=2) (.string ⟨#[]⟩) (Nat.le_refl _))
  obtain⟨k0,k1,k2⟩:=fc3 (set3 ((heap_setCell_other _ ⟨r,1,none⟩ w.heap.size (.int .i64 ((p:Int)+1)) (Ne.symm nrg)).trans ((heap_setCell_other _ ⟨w1.heap.size+1,2,none⟩ w.heap.size (.string ⟨#[]⟩) ntg).trans ((heap_setCell_other _ ⟨w1.heap.size+1,1,none⟩ w.heap.size (.int .i64 rd) ntg).trans ((heap_setCell_other _ ⟨w1.heap.size+1,0,none⟩ w.heap.size (.int .i64 2) ntg).trans b6)))) (.int .i64 2) (.int .i64 rd) (.string ⟨#[]⟩));go_wp2;refine bodyPost_ret (v:=vLit (some (2,rd,⟨#[]⟩))) (by simp[results,results208,go_sem,k0,k1,k2]) rfl ?_;exact IPost.ok HF.out rfl hfin sfin
 | false=>
 have j8:=hid (j7.out.trans (if_neg (by rw[g2];simp)))
 cases g9:kd==5 with
 | true=>
  have HF:=hid (j8.out.trans (if_pos g9))
  have a7:kd≠0:=by intro z;rw[z] at g9;simp at g9
  have hpl:=HQ.out a7;go_wp2_with fail;refine(b7v tx _).mono ?_;rintro e e7 ⟨rfl,i0⟩;have e8:=h2.spB i0;have i1:=h2.below i0;have b7:=((h2.nb ⟨_,_,d8⟩ (by decide) (by decide)).heap e8).trans d8;have l8:=((h2.nb ⟨_,_,c7⟩ (by decide) (by decide)).heap e8).trans c7;have d0:=((h2.nb ⟨_,_,d9⟩ (by decide) (by decide)).heap e8).trans d9;have k7:=s2.trans e8;clear h4 h5;obtain⟨ta,tc,mb,oa,oc,c0,g0,c2,c3,c4,fz,_,_⟩:=i1.cells;have g1:=fz 1;clear c0 c2 c3 c4 fz;have a4:=(cell_of b7 (j:=0)).1;have a5:=(cell_of b7 (j:=1)).1;have a6:=(cell_of b7 (j:=2)).1;have cgz:∀ j,e7.frozen? ⟨w.heap.size,j,none⟩=false:=fun j=>(cell_of b7).2;simp only[List.getElem?_toArray,List.getElem?_cons_succ,List.getElem?_cons_zero] at a4 a5 a6;have b0:=(cell_of d0 (j:=0)).1
  have b2:=(cell_of d0 (j:=1)).1;have b3:=(cell_of d0 (j:=2)).1;have cvz:∀ j,e7.frozen? ⟨(w1.heap.size+1),j,none⟩=false:=fun j=>(cell_of d0).2;simp only[List.getElem?_toArray,List.getElem?_cons_succ,List.getElem?_cons_zero] at b0 b2 b3;have te:tag e7 (w1.heap.size+1) 40:=⟨_,_,d0⟩;have tg:tag e7 w.heap.size 40:=⟨_,_,b7⟩
  have hfin:=(((((((i1.setV (c:=w1.heap.size+1) (j:=0) (.int .i64 3) te).setV (c:=w1.heap.size+1) (j:=1) (.int .i64 0) (a0d (.int .i64 3) te)).setV (c:=w1.heap.size+1) (j:=2) (.string tx) (a0d (.int .i64 0) (a0d (.int .i64 3) te))).at (q:=p+1) (by omega) (z:=(p:Int)+1) rfl).setV (c:=w.heap.size) (j:=0) (.int .i64 3) (a0d (.int .i64 ((p:Int)+1)) (a0d (.string tx) (a0d (.int .i64 0) (a0d (.int .i64 3) tg))))).setV (c:=w.heap.size) (j:=1) (.int .i64 0) (a0d (.int .i64 3) (a0d (.int .i64 ((p:Int)+1)) (a0d (.string tx) (a0d (.int .i64 0) (a0d (.int .i64 3) tg)))))).setV (c:=w.heap.size) (j:=2) (.string tx) (a0d (.int .i64 0) (a0d (.int .i64 3) (a0d (.int .i64 ((p:Int)+1)) (a0d (.string tx) (a0d (.int .i64 0) (a0d (.int .i64 3) tg)))))))
  have sfin:=(((((((k7.set (c:=w1.heap.size+1) (j:=0) (.int .i64 3) (by omega)).set (c:=w1.heap.size+1) (j:=1) (.int .i64 0) (by omega)).set (c:=w1.heap.size+1) (j:=2) (.string tx) (by omega)).setR (j:=1) (.int .i64 ((p:Int)+1)) (by decide)).set (c:=w.heap.size) (j:=0) (.int .i64 3) (Nat.le_refl _)).set (c:=w.heap.size) (j:=1) (.int .i64 0) (Nat.le_refl _)).set (c:=w.heap.size) (j:=2) (.string tx) (Nat.le_refl _))
  obtain⟨k0,k1,k2⟩:=fc3 (set3 ((heap_setCell_other _ ⟨r,1,none⟩ w.heap.size (.int .i64 ((p:Int)+1)) (Ne.symm nrg)).trans ((heap_setCell_other _ ⟨w1.heap.size+1,2,none⟩ w.heap.size (.string tx) ntg).trans ((heap_setCell_other _ ⟨w1.heap.size+1,1,none⟩ w.heap.size (.int .i64 0) ntg).trans ((heap_setCell_other _ ⟨w1.heap.size+1,0,none⟩ w.heap.size (.int .i64 3) ntg).trans b7)))) (.int .i64 3) (.int .i64 0) (.string tx));go_wp2;refine bodyPost_ret (v:=vLit (some (3,0,tx))) (by simp[results,results208,go_sem,k0,k1,k2]) rfl ?_;exact IPost.ok HF.out rfl hfin sfin
 | false=>
 have j9:=hid (j8.out.trans (if_neg (by rw[g9];simp)));go_wp2_with fail;refine(a3L hV h2 k_true).mono ?_;rintro e k8 ⟨rfl,i2⟩;have e9:=h2.spB i2;have a8:=h2.below i2;have e0:=((h2.nb ⟨_,_,d8⟩ (by decide) (by decide)).heap e9).trans d8;have a9:=((h2.nb ⟨_,_,c7⟩ (by decide) (by decide)).heap e9).trans c7;have e2:=((h2.nb ⟨_,_,d9⟩ (by decide) (by decide)).heap e9).trans d9;have i3:=s2.trans e9
 cases hs_k_true:sees V p k_true with
 | true=>
  have HF:=hid (j9.out.trans (if_pos hs_k_true));have g3:=(cell_of a9 (j:=0)).1;have g4:=(cell_of a9 (j:=1)).1;have g5:=(cell_of a9 (j:=2)).1;have ctz:∀ j,k8.frozen? ⟨w1.heap.size,j,none⟩=false:=fun j=>(cell_of a9).2;simp only[List.getElem?_toArray,List.getElem?_cons_succ,List.getElem?_cons_zero] at g3 g4 g5;obtain⟨a7,htl⟩:=HST _ hs_k_true;have hpl:=HQ.out a7
  have htb:(tx.toList==k_true.toList)=true:=by rw[htl];simp[ByteArray.toList_eq]
  go_wp2_with fail;refine(b3s true _).mono ?_;rintro e f0 ⟨rfl,i4⟩;have f1:=a8.spB i4;have i5:=a8.below i4;have b8:=((a8.nb ⟨_,_,e0⟩ (by decide) (by decide)).heap f1).trans e0;have l9:=((a8.nb ⟨_,_,a9⟩ (by decide) (by decide)).heap f1).trans a9;have d1:=((a8.nb ⟨_,_,e2⟩ (by decide) (by decide)).heap f1).trans e2;have k9:=i3.trans f1;clear g3 g4 g5 ctz;rw[show bit true=1 from rfl];obtain⟨ta,tc,mb,oa,oc,c0,g0,c2,c3,c4,fz,_,_⟩:=i5.cells;have g1:=fz 1;clear c0 c2 c3 c4 fz;have a4:=(cell_of b8 (j:=0)).1;have a5:=(cell_of b8 (j:=1)).1;have a6:=(cell_of b8 (j:=2)).1;have cgz:∀ j,f0.frozen? ⟨w.heap.size,j,none⟩=false:=fun j=>(cell_of b8).2;simp only[List.getElem?_toArray,List.getElem?_cons_succ,List.getElem?_cons_zero] at a4 a5 a6
  have b0:=(cell_of d1 (j:=0)).1;have b2:=(cell_of d1 (j:=1)).1;have b3:=(cell_of d1 (j:=2)).1;have cvz:∀ j,f0.frozen? ⟨(w1.heap.size+1),j,none⟩=false:=fun j=>(cell_of d1).2;simp only[List.getElem?_toArray,List.getElem?_cons_succ,List.getElem?_cons_zero] at b0 b2 b3;have te:tag f0 (w1.heap.size+1) 40:=⟨_,_,d1⟩;have tg:tag f0 w.heap.size 40:=⟨_,_,b8⟩
  have hfin:=(((((((i5.setV (c:=w1.heap.size+1) (j:=0) (.int .i64 4) te).setV (c:=w1.heap.size+1) (j:=1) (.int .i64 1) (a0d (.int .i64 4) te)).setV (c:=w1.heap.size+1) (j:=2) (.string ⟨#[]⟩) (a0d (.int .i64 1) (a0d (.int .i64 4) te))).at (q:=p+1) (by omega) (z:=(p:Int)+1) rfl).setV (c:=w.heap.size) (j:=0) (.int .i64 4) (a0d (.int .i64 ((p:Int)+1)) (a0d (.string ⟨#[]⟩) (a0d (.int .i64 1) (a0d (.int .i64 4) tg))))).setV (c:=w.heap.size) (j:=1) (.int .i64 1) (a0d (.int .i64 4) (a0d (.int .i64 ((p:Int)+1)) (a0d (.string ⟨#[]⟩) (a0d (.int .i64 1) (a0d (.int .i64 4) tg)))))).setV (c:=w.heap.size) (j:=2) (.string ⟨#[]⟩) (a0d (.int .i64 1) (a0d (.int .i64 4) (a0d (.int .i64 ((p:Int)+1)) (a0d (.string ⟨#[]⟩) (a0d (.int .i64 1) (a0d (.int .i64 4) tg)))))))
  have sfin:=(((((((k9.set (c:=w1.heap.size+1) (j:=0) (.int .i64 4) (by omega)).set (c:=w1.heap.size+1) (j:=1) (.int .i64 1) (by omega)).set (c:=w1.heap.size+1) (j:=2) (.string ⟨#[]⟩) (by omega)).setR (j:=1) (.int .i64 ((p:Int)+1)) (by decide)).set (c:=w.heap.size) (j:=0) (.int .i64 4) (Nat.le_refl _)).set (c:=w.heap.size) (j:=1) (.int .i64 1) (Nat.le_refl _)).set (c:=w.heap.size) (j:=2) (.string ⟨#[]⟩) (Nat.le_refl _))
  obtain⟨k0,k1,k2⟩:=fc3 (set3 ((heap_setCell_other _ ⟨r,1,none⟩ w.heap.size (.int .i64 ((p:Int)+1)) (Ne.symm nrg)).trans ((heap_setCell_other _ ⟨w1.heap.size+1,2,none⟩ w.heap.size (.string ⟨#[]⟩) ntg).trans ((heap_setCell_other _ ⟨w1.heap.size+1,1,none⟩ w.heap.size (.int .i64 1) ntg).trans ((heap_setCell_other _ ⟨w1.heap.size+1,0,none⟩ w.heap.size (.int .i64 4) ntg).trans b8)))) (.int .i64 4) (.int .i64 1) (.string ⟨#[]⟩));go_wp2;refine bodyPost_ret (v:=vLit (some (4,1,⟨#[]⟩))) (by simp[results,results208,go_sem,k0,k1,k2]) rfl ?_;exact IPost.ok HF.out rfl hfin sfin
 | false=>
 have k3:=hid (j9.out.trans (if_neg (by rw[hs_k_true];simp)));go_wp2_with fail;refine(a3L hV a8 a2A).mono ?_;rintro e l0 ⟨rfl,i6⟩;have f2:=a8.spB i6;have a3:=a8.below i6;have b9:=((a8.nb ⟨_,_,e0⟩ (by decide) (by decide)).heap f2).trans e0;have a2:=((a8.nb ⟨_,_,a9⟩ (by decide) (by decide)).heap f2).trans a9;have c1:=((a8.nb ⟨_,_,e2⟩ (by decide) (by decide)).heap f2).trans e2;have g7:=i3.trans f2
 cases hs_k_false:sees V p a2A with
 | true=>
  have HF:=hid (k3.out.trans (if_pos hs_k_false));have g3:=(cell_of a2 (j:=0)).1;have g4:=(cell_of a2 (j:=1)).1;have g5:=(cell_of a2 (j:=2)).1;have ctz:∀ j,l0.frozen? ⟨w1.heap.size,j,none⟩=false:=fun j=>(cell_of a2).2;simp only[List.getElem?_toArray,List.getElem?_cons_succ,List.getElem?_cons_zero] at g3 g4 g5;obtain⟨a7,htl⟩:=HST _ hs_k_false;have hpl:=HQ.out a7
  have htb:(tx.toList==k_true.toList)=false:=by rw[htl];simp[ByteArray.toList_eq]
  go_wp2_with fail;refine(b3s false _).mono ?_;rintro e f3 ⟨rfl,i7⟩;have f4:=a3.spB i7;have i8:=a3.below i7;have c5:=((a3.nb ⟨_,_,b9⟩ (by decide) (by decide)).heap f4).trans b9;have m0:=((a3.nb ⟨_,_,a2⟩ (by decide) (by decide)).heap f4).trans a2;have d2:=((a3.nb ⟨_,_,c1⟩ (by decide) (by decide)).heap f4).trans c1;have l1:=g7.trans f4;clear g3 g4 g5 ctz;rw[show bit false=0 from rfl];obtain⟨ta,tc,mb,oa,oc,c0,g0,c2,c3,c4,fz,_,_⟩:=i8.cells;have g1:=fz 1;clear c0 c2 c3 c4 fz;have a4:=(cell_of c5 (j:=0)).1;have a5:=(cell_of c5 (j:=1)).1;have a6:=(cell_of c5 (j:=2)).1;have cgz:∀ j,f3.frozen? ⟨w.heap.size,j,none⟩=false:=fun j=>(cell_of c5).2;simp only[List.getElem?_toArray,List.getElem?_cons_succ,List.getElem?_cons_zero] at a4 a5 a6
  have b0:=(cell_of d2 (j:=0)).1;have b2:=(cell_of d2 (j:=1)).1;have b3:=(cell_of d2 (j:=2)).1;have cvz:∀ j,f3.frozen? ⟨(w1.heap.size+1),j,none⟩=false:=fun j=>(cell_of d2).2;simp only[List.getElem?_toArray,List.getElem?_cons_succ,List.getElem?_cons_zero] at b0 b2 b3;have te:tag f3 (w1.heap.size+1) 40:=⟨_,_,d2⟩;have tg:tag f3 w.heap.size 40:=⟨_,_,c5⟩
  have hfin:=(((((((i8.setV (c:=w1.heap.size+1) (j:=0) (.int .i64 4) te).setV (c:=w1.heap.size+1) (j:=1) (.int .i64 0) (a0d (.int .i64 4) te)).setV (c:=w1.heap.size+1) (j:=2) (.string ⟨#[]⟩) (a0d (.int .i64 0) (a0d (.int .i64 4) te))).at (q:=p+1) (by omega) (z:=(p:Int)+1) rfl).setV (c:=w.heap.size) (j:=0) (.int .i64 4) (a0d (.int .i64 ((p:Int)+1)) (a0d (.string ⟨#[]⟩) (a0d (.int .i64 0) (a0d (.int .i64 4) tg))))).setV (c:=w.heap.size) (j:=1) (.int .i64 0) (a0d (.int .i64 4) (a0d (.int .i64 ((p:Int)+1)) (a0d (.string ⟨#[]⟩) (a0d (.int .i64 0) (a0d (.int .i64 4) tg)))))).setV (c:=w.heap.size) (j:=2) (.string ⟨#[]⟩) (a0d (.int .i64 0) (a0d (.int .i64 4) (a0d (.int .i64 ((p:Int)+1)) (a0d (.string ⟨#[]⟩) (a0d (.int .i64 0) (a0d (.int .i64 4) tg)))))))
  have sfin:=(((((((l1.set (c:=w1.heap.size+1) (j:=0) (.int .i64 4) (by omega)).set (c:=w1.heap.size+1) (j:=1) (.int .i64 0) (by omega)).set (c:=w1.heap.size+1) (j:=2) (.string ⟨#[]⟩) (by omega)).setR (j:=1) (.int .i64 ((p:Int)+1)) (by decide)).set (c:=w.heap.size) (j:=0) (.int .i64 4) (Nat.le_refl _)).set (c:=w.heap.size) (j:=1) (.int .i64 0) (Nat.le_refl _)).set (c:=w.heap.size) (j:=2) (.string ⟨#[]⟩) (Nat.le_refl _))
  obtain⟨k0,k1,k2⟩:=fc3 (set3 ((heap_setCell_other _ ⟨r,1,none⟩ w.heap.size (.int .i64 ((p:Int)+1)) (Ne.symm nrg)).trans ((heap_setCell_other _ ⟨w1.heap.size+1,2,none⟩ w.heap.size (.string ⟨#[]⟩) ntg).trans ((heap_setCell_other _ ⟨w1.heap.size+1,1,none⟩ w.heap.size (.int .i64 0) ntg).trans ((heap_setCell_other _ ⟨w1.heap.size+1,0,none⟩ w.heap.size (.int .i64 4) ntg).trans c5)))) (.int .i64 4) (.int .i64 0) (.string ⟨#[]⟩));go_wp2;refine bodyPost_ret (v:=vLit (some (4,0,⟨#[]⟩))) (by simp[results,results208,go_sem,k0,k1,k2]) rfl ?_;exact IPost.ok HF.out rfl hfin sfin
 | false=>
 have k4:=hid (k3.out.trans (if_neg (by rw[hs_k_false];simp)));go_wp2_with fail;refine(a1m hV a3 a3p).mono ?_;rintro e i9 ⟨rfl,a0,b4⟩
 cases hs_k_date:sees V p a3p with
 | true=>
  rw[hs_k_date] at a0;replace a0:IM V Mx r B D i9 (p+1) o:=a0;have d3:=((a3.nb ⟨_,_,b9⟩ (by decide) (by decide)).heap b4).trans b9;have d4:=((a3.nb ⟨_,_,a2⟩ (by decide) (by decide)).heap b4).trans a2;have d5:=((a3.nb ⟨_,_,c1⟩ (by decide) (by decide)).heap b4).trans c1;have f5:=g7.trans b4;have g6:=hid (k4.out.trans (if_pos hs_k_date));go_wp2_with fail;refine(b9G hV hX a0).mono ?_;intro e j0 j3;rcases j3.cs with⟨m4,f8,rfl,j4⟩ | ⟨l2,m5,m6,f8,rfl,l3,f6⟩
  .exact bd (It.bad g6.out f8 rfl) ((h.low f5).trans j4)
  have c6:=((a0.nb ⟨_,_,d3⟩ (by decide) (by decide)).heap f6).trans d3;have m1:=((a0.nb ⟨_,_,d4⟩ (by decide) (by decide)).heap f6).trans d4;have m2:=((a0.nb ⟨_,_,d5⟩ (by decide) (by decide)).heap f6).trans d5;have l4:=f5.trans f6;have HF:=hid (It.ok g6.out f8 rfl);obtain⟨va,vb,vc⟩:=l2;have a4:=(cell_of c6 (j:=0)).1;have a5:=(cell_of c6 (j:=1)).1;have a6:=(cell_of c6 (j:=2)).1;have cgz:∀ j,j0.frozen? ⟨w.heap.size,j,none⟩=false:=fun j=>(cell_of c6).2;simp only[List.getElem?_toArray,List.getElem?_cons_succ,List.getElem?_cons_zero] at a4 a5 a6;have tg:tag j0 w.heap.size 40:=⟨_,_,c6⟩;obtain⟨k0,k1,k2⟩:=fc3 (set3 c6 (.int .i64 va) (.int .i64 vb) (.string vc))
  have hfin:=(((l3.setV (c:=w.heap.size) (j:=0) (.int .i64 va) tg).setV (c:=w.heap.size) (j:=1) (.int .i64 vb) (a0d (.int .i64 va) tg)).setV (c:=w.heap.size) (j:=2) (.string vc) (a0d (.int .i64 vb) (a0d (.int .i64 va) tg)));have sfin:=(((l4.set (c:=w.heap.size) (j:=0) (.int .i64 va) (Nat.le_refl _)).set (c:=w.heap.size) (j:=1) (.int .i64 vb) (Nat.le_refl _)).set (c:=w.heap.size) (j:=2) (.string vc) (Nat.le_refl _));go_wp2;refine bodyPost_ret (v:=vLit (some (va,vb,vc))) (by simp[results,results208,go_sem,k0,k1,k2]) rfl ?_;exact IPost.ok HF.out rfl hfin sfin
 | false=>
 rw[hs_k_date] at a0;replace a0:IM V Mx r B D i9 p o:=a0;have d3:=((a3.nb ⟨_,_,b9⟩ (by decide) (by decide)).heap b4).trans b9;have d4:=((a3.nb ⟨_,_,a2⟩ (by decide) (by decide)).heap b4).trans a2;have d5:=((a3.nb ⟨_,_,c1⟩ (by decide) (by decide)).heap b4).trans c1;have f5:=g7.trans b4;have g6:=hid (k4.out.trans (if_neg (by rw[hs_k_date];simp)));go_wp2_with fail;refine(a3L hV a0 a1h).mono ?_;rintro e d7 ⟨rfl,j1⟩;have f7:=a0.spB j1;have g8:=a0.below j1;have a1:=((a0.nb ⟨_,_,d3⟩ (by decide) (by decide)).heap f7).trans d3;have m3:=((a0.nb ⟨_,_,d4⟩ (by decide) (by decide)).heap f7).trans d4;have d6:=((a0.nb ⟨_,_,d5⟩ (by decide) (by decide)).heap f7).trans d5;have j2:=f5.trans f7
 cases hs_k_null:sees V p a1h with
 | false=>
  have HF:=hid (g6.out.trans (if_neg (by rw[hs_k_null];simp)));have a4:=(cell_of a1 (j:=0)).1;have a5:=(cell_of a1 (j:=1)).1;have a6:=(cell_of a1 (j:=2)).1;have cgz:∀ j,d7.frozen? ⟨w.heap.size,j,none⟩=false:=fun j=>(cell_of a1).2;simp only[List.getElem?_toArray,List.getElem?_cons_succ,List.getElem?_cons_zero] at a4 a5 a6;have tg:tag d7 w.heap.size 40:=⟨_,_,a1⟩;obtain⟨k0,k1,k2⟩:=fc3 (set3 a1 (.int .i64 0) (.int .i64 0) (.string ⟨#[]⟩));have hfin:=(((g8.setV (c:=w.heap.size) (j:=0) (.int .i64 0) tg).setV (c:=w.heap.size) (j:=1) (.int .i64 0) (a0d (.int .i64 0) tg)).setV (c:=w.heap.size) (j:=2) (.string ⟨#[]⟩) (a0d (.int .i64 0) (a0d (.int .i64 0) tg)))
  have sfin:=(((j2.set (c:=w.heap.size) (j:=0) (.int .i64 0) (Nat.le_refl _)).set (c:=w.heap.size) (j:=1) (.int .i64 0) (Nat.le_refl _)).set (c:=w.heap.size) (j:=2) (.string ⟨#[]⟩) (Nat.le_refl _));go_wp2;refine bodyPost_ret (v:=vLit none) (by simp[results,results208,go_sem,k0,k1,k2]) rfl ?_;exact IPost.ok HF.out rfl hfin sfin
 | true=>
 have HF:=hid (g6.out.trans (if_pos hs_k_null));obtain⟨a7,htl⟩:=HST _ hs_k_null;have hpl:=HQ.out a7;obtain⟨ta,tc,mb,oa,oc,c0,g0,c2,c3,c4,fz,_,_⟩:=g8.cells;have g1:=fz 1;clear c0 c2 c3 c4 fz;have a4:=(cell_of a1 (j:=0)).1;have a5:=(cell_of a1 (j:=1)).1;have a6:=(cell_of a1 (j:=2)).1;have cgz:∀ j,d7.frozen? ⟨w.heap.size,j,none⟩=false:=fun j=>(cell_of a1).2;simp only[List.getElem?_toArray,List.getElem?_cons_succ,List.getElem?_cons_zero] at a4 a5 a6;have b0:=(cell_of d6 (j:=0)).1;have b2:=(cell_of d6 (j:=1)).1;have b3:=(cell_of d6 (j:=2)).1;have cvz:∀ j,d7.frozen? ⟨(w1.heap.size+1),j,none⟩=false:=fun j=>(cell_of d6).2;simp only[List.getElem?_toArray,List.getElem?_cons_succ,List.getElem?_cons_zero] at b0 b2 b3;have te:tag d7 (w1.heap.size+1) 40:=⟨_,_,d6⟩
 have tg:tag d7 w.heap.size 40:=⟨_,_,a1⟩;have hfin:=((((g8.at (q:=p+1) (by omega) (z:=(p:Int)+1) rfl).setV (c:=w.heap.size) (j:=0) (.int .i64 0) (a0d (.int .i64 ((p:Int)+1)) tg)).setV (c:=w.heap.size) (j:=1) (.int .i64 0) (a0d (.int .i64 0) (a0d (.int .i64 ((p:Int)+1)) tg))).setV (c:=w.heap.size) (j:=2) (.string ⟨#[]⟩) (a0d (.int .i64 0) (a0d (.int .i64 0) (a0d (.int .i64 ((p:Int)+1)) tg))));have sfin:=((((j2.setR (j:=1) (.int .i64 ((p:Int)+1)) (by decide)).set (c:=w.heap.size) (j:=0) (.int .i64 0) (Nat.le_refl _)).set (c:=w.heap.size) (j:=1) (.int .i64 0) (Nat.le_refl _)).set (c:=w.heap.size) (j:=2) (.string ⟨#[]⟩) (Nat.le_refl _))
 obtain⟨k0,k1,k2⟩:=fc3 (set3 ((heap_setCell_other _ ⟨r,1,none⟩ w.heap.size (.int .i64 ((p:Int)+1)) (Ne.symm nrg)).trans a1) (.int .i64 0) (.int .i64 0) (.string ⟨#[]⟩));go_wp2;refine bodyPost_ret (v:=vLit (some (0,0,⟨#[]⟩))) (by simp[results,results208,go_sem,k0,k1,k2]) rfl ?_;exact IPost.ok HF.out rfl hfin sfin
end
end Go.Proofs.YtphmpkpcamgjeaaGreatDoor
namespace Go.Proofs.YtphmpkpcamgjeaaGreatDoor
open Go.ChangeShapes Go.WideShapes Go.ChangeAt Go.RowKit Go.Proofs.Tryz
open Go.Maps
section
variable {V : Env} {Mx : DataW Unit} {r B : Nat} {D : Nat -> Prop} {w : World} {p : Nat} {o : List Nd} {m : Nat} {E Q : M Int}
theorem a1J {w:World} {b e k n:Nat} {v:Value} {xs:List Value} (h:w.ownsRow b e k v n xs):∃ a m c,v=.slice a m c:=by
 obtain⟨a,c,e⟩:=a2c h;exact⟨a,n,c,e⟩
theorem NI.of {r:Nat} {w w':World} {g:Nat} {t:Nd} (n:NI r w g t) (hs:w.heap.size<=w'.heap.size) (e:w'.heap[g]?=w.heap[g]?) (er:w'.heap[r]?=w.heap[r]?):NI r w' g t:=
  ⟨e.trans n.cell,Nat.lt_of_lt_of_le n.nb.1 hs,n.nb.2.1,fun z=>n.nb.2.2 (by rw[<- a3w er];exact z)⟩
theorem a0s {b:Nat} {v:Value} {ks:List Int} {g:Nat} {t:Nd} {ops:Array Oper} {rest:List Oper} {oo:Oper} {a:Act} {Q:Exit->Act->World->Prop} (hgd:oo.guard=none) (s z:Operand) (ho:oo.op=.call { callee:=.builtin .append,args:=#[s,z],argTypes:=#[37,37] }) (hty:oo.type=37) (pk:PI V Mx r B D b w p o v ks) (n:NI r w g t) (k:Int) (hs:a.eval s=v) (hz:a.eval z=.slice (some ⟨w.heap.size,0,none⟩) 1 1) (hl:ks.length<=100000)
 (h:∀ v' w',PI V Mx r B D b w' p o v' (ks++[k])->(∀ w0,Sp 4 r w0 w->w0.heap.size<=b->Sp 4 r w0 w')->NI r w' g t->wpList prog ops Q rest (a.put oo.dst v') w'):wpList prog ops Q (oo::rest) a (w.alloc (.cells #[.int .i64 k] 3)):=by
 obtain⟨v',w',hrun,h1,h2,h3,_⟩:=b0K pk k hl
 have a0:(Builtin.append_ #[37,37] oo.type #[v,.slice (some ⟨w.heap.size,0,none⟩) 1 1]).run prog (w.alloc (.cells #[.int .i64 k] 3))=.ok v' w':=by rw[hty];exact hrun
 have hgl:=n.nb.1;have hrl:=pk.sm.rl;have e1:w'.heap[g]?=w.heap[g]?:=(h3.block g (by simp;omega) (fun e=>a0t n.tg (a0n pk.row e.symm) (by decide) rfl)).trans ((below_alloc w _).block g hgl);have e2:w'.heap[r]?=w.heap[r]?:=(h3.block r (by simp;omega) (fun e=>a0t pk.sm.rt (a0n pk.row e.symm) (by decide) rfl)).trans ((below_alloc w _).block r hrl);have hsz:=h3.size;simp at hsz;exact Lib.wpList_append_run _ hgd s z 37 37 ho v _ hs hz v' w' a0 (h v' w' h1 h2 (n.of (by omega) e1 e2))
theorem b9H {V:Env} {s:ByteArray} {l:List ByteArray} {p:Nat} (h:pick V (s::l) p=some 0):sees V p s=true:=by
 unfold pick at h
 cases hs:sees V p s with
 | true=>rfl
 | false=>
 rw[hs] at h;simp at h
end
end Go.Proofs.YtphmpkpcamgjeaaGreatDoor
namespace Go.Proofs.YtphmpkpcamgjeaaGreatDoor
open Go.ChangeShapes Go.WideShapes Go.ChangeAt Go.RowKit Go.Proofs.Tryz
open Go.Maps
section
variable {V : Env} {Mx : DataW Unit} {r B : Nat} {D : Nat -> Prop} {w : World} {p : Nat} {o : List Nd} {m : Nat} {E Q : M Int}
theorem b8L (hV:IV V Mx) (hE:a0p V Mx 147 m E) (gE:Gro 999 E) (ps:Int) (h:IM V Mx r B D w p o) (hn:V.ts.length-p<m) (hl:o.length<=1000*p+500) :
 Calls prog 211 #[.pointer (some ⟨r,0,none⟩),.int .i64 ps] w fun e w'=>IPost V Mx r B D vInt (a7p V E ps p o) w e w':=by
 have hT:=hV.n;have hle:=h.le;obtain⟨F0,L0⟩:=hidEq (a7p V E ps p o);rw[<- L0.out];go_enter func211,ntmps211;go_wp2_with fail;refine(a0u hV h g_lp).mono ?_;rintro e e6 (⟨a0,rfl,c3,c4⟩ | ⟨a0,rfl,b6⟩)
 rotate_left
 .exact bd (It.mustF L0.out a0 rfl) ((h.low h.sp).trans b6)
 have a5:=h.sp.trans c4;have a6:=hid (It.mustT L0.out a0 rfl);have e0:=a0c a0;go_wp2_with fail;refine(hE c3 (by omega) (by omega)).mono ?_;intro e e7 b7;rcases b7.cs with⟨e8,a1,rfl,b8⟩ | ⟨c5,e9,f0,a1,rfl,a7,c6⟩
 .exact bd (It.bad a6.out a1 rfl) ((h.low a5).trans b8)
 have e1:=gE _ _ _ _ _ a1;have a8:=a5.trans c6;have d8:=a7.le;have a9:=hid (It.ok a6.out a1 rfl);go_wp2_with fail;refine(a0u hV a7 k_as).mono ?_;rintro e f1 (⟨a2,rfl,c7,c8⟩ | ⟨a2,rfl,b9⟩)
 rotate_left
 .exact bd (It.mustF a9.out a2 rfl) ((h.low a8).trans b9)
 have b0:=a8.trans c8;have b1:=hid (It.mustT a9.out a2 rfl);have e2:=a0c a2;go_wp2_with fail;refine(b6x hV c7).mono ?_;intro e f2 c0;rcases c0.cs with⟨f3,a3,rfl,c1⟩ | ⟨c9,f4,f5,a3,rfl,b2,d0⟩
 .exact bd (It.bad b1.out a3 rfl) ((h.low b0).trans c1)
 have e3:=a4l _ _ _ _ _ a3;have b3:=b0.trans d0;have d9:=b2.le;have b4:=hid (It.ok b1.out a3 rfl);go_wp2_with fail;refine(a0u hV b2 g_rp).mono ?_;rintro e f6 (⟨a4,rfl,d1,d2⟩ | ⟨a4,rfl,c2⟩)
 rotate_left
 .exact bd (It.mustF b4.out a4 rfl) ((h.low b3).trans c2)
 have d3:=b3.trans d2;have d4:=hid (It.mustT b4.out a4 rfl);have e4:=a0c a4;go_wp2_with fail;refine(addZ d1 (by omega) ({ op:=13,n:=c9,kids:=[c5],pos:=ps }:Nd) (by simp)).mono ?_;rintro e f7 ⟨rfl,b5,d5⟩;have d6:=d3.trans d5;have d7:=hid (It.done d4.out rfl);have e5:=b5.ol;exact okI d7.out b5 d6
end
end Go.Proofs.YtphmpkpcamgjeaaGreatDoor
