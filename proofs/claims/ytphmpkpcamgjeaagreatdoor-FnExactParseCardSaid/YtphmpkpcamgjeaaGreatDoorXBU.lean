import Derived.Test.YtphmpkpcamgjeaaGreatDoorXAA
import Derived.Test.YtphmpkpcamgjeaaGreatDoorXBT
import Derived.Test.YtphmpkpcamgjeaaGreatDoorXBS
set_option linter.unusedVariables false
set_option linter.unusedSimpArgs false
set_option maxRecDepth 100000
set_option maxHeartbeats 16000000
namespace Go.Proofs.YtphmpkpcamgjeaaGreatDoor
open Go.ChangeShapes Go.WideShapes Go.ChangeAt Go.RowKit Go.Proofs.Tryz
theorem a8c (z B B0 k g c:Nat) (o:List Nd) (xs ks:List Value) (w a0:World) (hzg:z≠g) (hzk:∀ kv∈ks,kv.ownBlock≠some z) (hzl:z<w.heap.size) (hol:o.length<=1152921504606846976) (hk0:0<k) (hk:endK o k<=1152921504606846976) (h:TR w B (.slice (some ⟨g,0,none⟩) o.length c) o xs ks) (hb:Below B0 a0 w) (hB:B0<=B) :
 Calls prog 7 #[.agg #[.slice (some ⟨g,0,none⟩) o.length c],.int .i64 (k:Int)] w fun e w'=>e=.returned (.int .i64 ((endK o k:Nat):Int))/\Below B0 a0 w'/\(∃ xs',TR w' B (.slice (some ⟨g,0,none⟩) o.length c) (mkL o k) xs' ks)/\w'.heap[z]?=w.heap[z]?:=by
 have b1:Below B0 a0 (w.alloc (.cells #[.slice (some ⟨g,0,none⟩) o.length c] 24)):=hb.alloc (by have:=h.glt;omega) _;have hm:=a7b z B B0 k g c o xs ks (w.alloc (.cells #[.slice (some ⟨g,0,none⟩) o.length c] 24)) a0 hzg hzk (by simp;omega) hol hk0 hk (h.below (below_alloc _ _)) b1 hB;have a1:=(below_alloc w (.cells #[.slice (some ⟨g,0,none⟩) o.length c] 24)).block z hzl;go_enter func7,ntmps7;go_wp2_with fail;refine hm.mono ?_;rintro e w1 ⟨rfl,b2,h2,h3⟩;have H3:=hid (h3.trans a1);clear h3 a1;go_wp2;go_ret;exact⟨rfl,b2,h2,H3.out⟩
theorem a8d (v:Nat) (a:Option Addr) (k:Int) (w:World) (hv:v=18\/v=19):Calls prog v #[.slice a 0 0,.int .i64 k] w fun e w'=>e=.returned (.int .i64 k)/\w'=w:=by
 rcases hv with rfl | rfl
 .go_enter func18,ntmps18;go_wp2;go_loopw [1,5] (fun kv iv wr=>kv=.int .i64 k/\iv=.int .i64 0/\wr=w) (fun _ _ _=>0)
  case atStart=>exact⟨rfl,rfl,rfl⟩
  case round=>
  obtain⟨rfl,rfl,hww⟩:=hrel;replace hww:=hww.symm;subst hww;go_wp2;go_ret;exact⟨rfl,rfl⟩
 go_enter func19,ntmps19;go_wp2;go_loopw [1,5] (fun kv iv wr=>kv=.int .i64 k/\iv=.int .i64 0/\wr=w) (fun _ _ _=>0)
 case atStart=>exact⟨rfl,rfl,rfl⟩
 case round=>
 obtain⟨rfl,rfl,hww⟩:=hrel;replace hww:=hww.symm;subst hww;go_wp2;go_ret;exact⟨rfl,rfl⟩
theorem b6b (k n:Nat) (v:Value) (w:World) (hk:k+n<=1152921504606846976) (h:RS 1 CI 0 w v (mkK k n)):Calls prog 39 #[v,.int .i64 (k:Int)] w fun e w'=>e=.returned (.int .i64 ((k+n:Nat):Int))/\w'=w:=by
 obtain⟨a,c,rfl,hc⟩:=h;rw[a2q];rcases Nat.eq_zero_or_pos n with h0 | hp
 .subst h0;exact a6Z a c k w
 obtain⟨g,o,rfl,_,hg,hcc⟩:=hc (by rw[a2q];exact hp);refine(a7V g o n c k w (by omega) (by omega) (fun j hj=>?_)).mono ?_
 .obtain⟨cs,hcs,h1⟩:=hcc j (by rw[a2q];exact hj);unfold CI at hcs;subst hcs;have:=h1 0 (by omega);have hg:=b4x k n j hj;rw[List.getElem?_eq_getElem (by rw[a2q];exact hj)] at hg;simp only[Option.some.injEq] at hg;rw[hg] at this;simpa using this
 rintro e w' ⟨rfl,rfl⟩;exact⟨by simp,rfl⟩
def HQ (w:World) (g q:Nat) (t:Nd) (kv:Value):Prop:=g<w.heap.size/\(∀ j,j<10->w.cell? ⟨g,q+j,none⟩=(ndC t kv)[j]?)/\RS 1 CI 0 w kv t.kids
theorem HQ.below {w w':World} {g q:Nat} {t:Nd} {kv:Value} (h:HQ w g q t kv) (hb:Below w.heap.size w w'):HQ w' g q t kv:=
  ⟨Nat.lt_of_lt_of_le h.1 hb.size,fun j hj=>(hb.cell (p:=⟨g,q+j,none⟩) h.1).trans (h.2.1 j hj),h.2.2.below a5P hb⟩
theorem HQ.cell {w:World} {g q:Nat} {t:Nd} {kv:Value} (h:HQ w g q t kv) (j:Nat) (hj:j<10) {a:Nat} (ha:a=q+j):w.cell? ⟨g,a,none⟩=(ndC t kv)[j]?:=by
 subst ha;exact h.2.1 j hj
theorem b6M:∀ (o:List Nd) (k i:Nat) (h:i<o.length),(mkL o k)[i]?=some (mkNd o[i] (endK (o.take i) k))
 | t::r,k,0,_=>rfl
 | t::r,k,i+1,h=>by
  have:=b6M r (k+9+t.kids.length) i (by simpa using h);simpa[mkL,endK] using this
theorem b8k {w:World} {v:Value} {o:List Nd} (h:RS 10 CN 0 w v o) {i:Nat} {t:Nd} (hi:o[i]?=some t):∃ g q c kv,v=.slice (some ⟨g,q,none⟩) o.length c/\HQ w g (q+i*10) t kv:=by
 obtain⟨a,c,rfl,hc⟩:=h;obtain⟨hl,e⟩:=List.getElem?_eq_some_iff.1 hi;subst e;obtain⟨g,q,rfl,_,hg,hcc⟩:=hc (by omega);obtain⟨cs,⟨kv,hcs,hk⟩,h1⟩:=hcc i hl;subst hcs;exact⟨g,q,c,kv,rfl,hg,h1,hk⟩
theorem a7c (k:Nat) (o:List Nd) (v:Value) (w:World) (hol:o.length<=1152921504606846976) (hk0:0<k) (hk:endK o k<=1152921504606846976) (h:RS 10 CN 0 w v (mkL o k)) :
 Calls prog 19 #[v,.int .i64 (k:Int)] w fun e w'=>e=.returned (.int .i64 ((endK o k:Nat):Int))/\Below w.heap.size w w':=by
 obtain⟨a,c,hv⟩:∃ a c,v=.slice a o.length c:=by obtain⟨a,c,e,_⟩:=h;exact⟨a,c,by rw[e,a3X]⟩
 subst hv;have H:=hid h;have HK:=hid hk;clear h hk;go_enter func19,ntmps19;go_wp2;go_loopw [1,5] (fun kv iv wr=>∃ i K:Nat,i<=o.length/\kv=.int .i64 ((K:Nat):Int)/\iv=.int .i64 i/\Hid (K=endK (o.take i) k)/\Below w.heap.size w wr) (fun _ iv _=>o.length-(intOf iv).toNat)
 case atStart=>exact⟨0,k,Nat.zero_le _,rfl,rfl,hid rfl,Below.refl _ _⟩
 case round=>
 obtain⟨i,K,hi,rfl,rfl,HE,hb⟩:=hrel;by_cases hlt:i<o.length
 .have hlti:(i:Int)<o.length:=by omega
  have hpn:=b1w o k i hlt
  have hKK:K+9+o[i].kids.length<=1152921504606846976:=by
   have:=a7Y o k (i+1);rw[hpn.2,<- HE.out] at this;exact Nat.le_trans this HK.out
  have b0:0<K:=by rw[HE.out];exact Nat.lt_of_lt_of_le hk0 (a7a _ _)
  have HEN:Hid (K+9+o[i].kids.length=endK (o.take (i+1)) k):=by
   show K+9+o[i].kids.length=endK (o.take (i+1)) k
   rw[hpn.2,<- HE.out]
  have hat:=b6M o k i hlt;rw[<- HE.out] at hat;obtain⟨g,q,c',kv,hae,q0⟩:=b8k (H.out.below a5W hb) hat;rw[a3X] at hae;cases hae;clear hpn HE hat;generalize o[i]=t at *
  obtain⟨ka,kc,hke⟩:∃ a c,kv=.slice a t.kids.length c:=by
   obtain⟨a,c,e,_⟩:=q0.2.2;exact⟨a,c,by rw[e];simp[mkNd,a2q]⟩
  subst hke;obtain⟨L,hL⟩:∃ L,L=t.kids.length:=⟨_,rfl⟩;obtain⟨T,hT⟩:∃ T,T=mkNd t K:=⟨_,rfl⟩
  have hTk:T.kids=mkK (K+8) L:=by rw[hT,hL];rfl
  have hTp:T.pos=((K+8+L:Nat):Int):=by rw[hT,hL];rfl
  have hTf:T.op=((K:Nat):Int)/\T.name=mtx (K+1)/\T.qual=mtx (K+2)/\T.n=((K+3:Nat):Int)/\T.m=((K+4:Nat):Int)/\T.vk=((K+5:Nat):Int)/\T.vn=((K+6:Nat):Int)/\T.vs=mtx (K+7):=by rw[hT];exact⟨rfl,rfl,rfl,rfl,rfl,rfl,rfl,rfl⟩
  rw[<- hT] at q0;rw[<- hL] at hKK HEN q0;clear hL hT t;have a1:IntKind.i64.wrap (((K:Nat):Int)+1)=((K+1:Nat):Int):=a3t (by omega);have a2:IntKind.i64.wrap (((K+1:Nat):Int)+1)=((K+2:Nat):Int):=a3t (by omega);have a3:IntKind.i64.wrap (((K+2:Nat):Int)+1)=((K+3:Nat):Int):=a3t (by omega);have a4:IntKind.i64.wrap (((K+3:Nat):Int)+1)=((K+4:Nat):Int):=a3t (by omega);have a5:IntKind.i64.wrap (((K+4:Nat):Int)+1)=((K+5:Nat):Int):=a3t (by omega);have a6:IntKind.i64.wrap (((K+5:Nat):Int)+1)=((K+6:Nat):Int):=a3t (by omega);have a7:IntKind.i64.wrap (((K+6:Nat):Int)+1)=((K+7:Nat):Int):=a3t (by omega);have a8:IntKind.i64.wrap (((K+7:Nat):Int)+1)=((K+8:Nat):Int):=a3t (by omega)
  have hwp:IntKind.i64.wrap (((K+8+L:Nat):Int)+1)=((K+9+L:Nat):Int):=(a3t (by omega)).trans (congrArg Int.ofNat (by omega));obtain⟨k0,e0⟩:∃ x:Int,x=((K:Nat):Int):=⟨_,rfl⟩;obtain⟨k1,e1⟩:∃ x:Int,x=((K+1:Nat):Int):=⟨_,rfl⟩;obtain⟨k2,e2⟩:∃ x:Int,x=((K+2:Nat):Int):=⟨_,rfl⟩;obtain⟨k3,e3⟩:∃ x:Int,x=((K+3:Nat):Int):=⟨_,rfl⟩;obtain⟨k4,e4⟩:∃ x:Int,x=((K+4:Nat):Int):=⟨_,rfl⟩;obtain⟨k5,e5⟩:∃ x:Int,x=((K+5:Nat):Int):=⟨_,rfl⟩;obtain⟨k6,e6⟩:∃ x:Int,x=((K+6:Nat):Int):=⟨_,rfl⟩;obtain⟨k7,e7⟩:∃ x:Int,x=((K+7:Nat):Int):=⟨_,rfl⟩;obtain⟨k8,e8⟩:∃ x:Int,x=((K+8:Nat):Int):=⟨_,rfl⟩;obtain⟨k9,e9⟩:∃ x:Int,x=((K+9+L:Nat):Int):=⟨_,rfl⟩;obtain⟨kp,ep⟩:∃ x:Int,x=((K+8+L:Nat):Int):=⟨_,rfl⟩
  rw[<- e0,<- e1] at a1;rw[<- e1,<- e2] at a2;rw[<- e2,<- e3] at a3;rw[<- e3,<- e4] at a4;rw[<- e4,<- e5] at a5;rw[<- e5,<- e6] at a6;rw[<- e6,<- e7] at a7;rw[<- e7,<- e8] at a8;rw[<- ep,<- e9] at hwp;rw[<- ep] at hTp;rw[<- e0,<- e3,<- e4,<- e5,<- e6] at hTf
  have b4:¬ kp<0:=by rw[ep];omega
  have E0:=hid e0;have E1:=hid e1;have E2:=hid e2;have E3:=hid e3;have E4:=hid e4;have E5:=hid e5;have E6:=hid e6;have E7:=hid e7;have E8:=hid e8;have E9:=hid e9;have Ep:=hid ep;rw[<- e0];clear e0 e1 e2 e3 e4 e5 e6 e7 e8 e9 ep;obtain⟨z0,z1,z2,z3,z4,z5,z6,z7⟩:=hTf
  have c0:wr.cell? ⟨g,q+i*10,none⟩=some (.int .i64 k0):=by
   rw[q0.cell (a:=q+i*10) 0 (by omega) (by omega)];simp only[ndC,List.getElem?_cons_succ,List.getElem?_cons_zero,z0]
  have c1:wr.cell? ⟨g,q+i*10+1,none⟩=some (.string (mtx (K+1))):=by
   rw[q0.cell (a:=q+i*10+1) 1 (by omega) (by omega)];simp only[ndC,List.getElem?_cons_succ,List.getElem?_cons_zero,z1]
  go_wp2;go_region_held (fun W=>W.cell? ⟨g,q+i*10+1,none⟩=some (.string (mtx (K+1)))) (go_keep) ((go_at_call 37;refine(a3g (K+1) _ E1.out (by omega) (by omega)).mono ?_;rintro e v1 ⟨rfl,d1⟩;replace d1:=a1p d1;have q1:=q0.below d1;have b1:=hb.trans (d1.mono hb.size);have y1:v1.cell? ⟨g,q+i*10+1,none⟩=some (.string (mtx (K+1))):=by rw[q1.cell (a:=q+i*10+1) 1 (by omega) (by omega)];simp only[ndC,List.getElem?_cons_succ,List.getElem?_cons_zero,z1]))
  all_goals
    have c2:v1.cell? ⟨g,q+i*10+2,none⟩=some (.string (mtx (K+2))):=by
      rw[q1.cell (a:=q+i*10+2) 2 (by omega) (by omega)]
      simp only[ndC,List.getElem?_cons_succ,List.getElem?_cons_zero,z2]
    go_wp2
    go_region_held (fun W=>W.cell? ⟨g,q+i*10+2,none⟩=some (.string (mtx (K+2)))) (go_keep) ((go_at_call 37;refine(a3g (K+2) _ E2.out (by omega) (by omega)).mono ?_;rintro e v2 ⟨rfl,d2⟩;replace d2:=a1p d2;have q2:=q1.below d2;have b2:=b1.trans (d2.mono b1.size);have y2:v2.cell? ⟨g,q+i*10+2,none⟩=some (.string (mtx (K+2))):=by rw[q2.cell (a:=q+i*10+2) 2 (by omega) (by omega)];simp only[ndC,List.getElem?_cons_succ,List.getElem?_cons_zero,z2]))
    clear c0 c1 y1 c2 d1 
    have c3:v2.cell? ⟨g,q+i*10+3,none⟩=some (.int .i64 k3):=by
      rw[q2.cell (a:=q+i*10+3) 3 (by omega) (by omega)]
      simp only[ndC,List.getElem?_cons_succ,List.getElem?_cons_zero,z3]
    have c4:v2.cell? ⟨g,q+i*10+4,none⟩=some (.int .i64 k4):=by
      rw[q2.cell (a:=q+i*10+4) 4 (by omega) (by omega)]
      simp only[ndC,List.getElem?_cons_succ,List.getElem?_cons_zero,z4]
    have c5:v2.cell? ⟨g,q+i*10+5,none⟩=some (.int .i64 k5):=by
      rw[q2.cell (a:=q+i*10+5) 5 (by omega) (by omega)]
      simp only[ndC,List.getElem?_cons_succ,List.getElem?_cons_zero,z5]
    have c6:v2.cell? ⟨g,q+i*10+5+1,none⟩=some (.int .i64 k6):=by
      rw[q2.cell (a:=q+i*10+5+1) 6 (by omega) (by omega)]
      simp only[ndC,List.getElem?_cons_succ,List.getElem?_cons_zero,z6]
    have c7:v2.cell? ⟨g,q+i*10+5+2,none⟩=some (.string (mtx (K+7))):=by
      rw[q2.cell (a:=q+i*10+5+2) 7 (by omega) (by omega)]
      simp only[ndC,List.getElem?_cons_succ,List.getElem?_cons_zero,z7]
    go_wp2
    go_region_held (fun W=>W.cell? ⟨g,q+i*10+5+2,none⟩=some (.string (mtx (K+7)))) (go_keep) ((go_at_call 37;refine(a3g (K+7) _ E7.out (by omega) (by omega)).mono ?_;rintro e v3 ⟨rfl,d3⟩;replace d3:=a1p d3;have q3:=q2.below d3;have b3:=b2.trans (d3.mono b2.size);have y3:v3.cell? ⟨g,q+i*10+5+2,none⟩=some (.string (mtx (K+7))):=by rw[q3.cell (a:=q+i*10+5+2) 7 (by omega) (by omega)];simp only[ndC,List.getElem?_cons_succ,List.getElem?_cons_zero,z7]))
    have c8:v3.cell? ⟨g,q+i*10+8,none⟩=some (.slice ka L kc):=by
      rw[q3.cell (a:=q+i*10+8) 8 (by omega) (by omega)]
      rfl
    clear c3 c4 c5 c6 c7
    go_wp2_with fail
    have hh:=b6b (K+8) L (.slice ka L kc) v3 (by omega) (by have:=q3.2.2;rw[hTk] at this;exact this)
    rw[<- E8.out,<- Ep.out] at hh
    refine hh.mono ?_
    rintro e v9 ⟨rfl,a0⟩
    replace a0:=a0.symm
    subst a0
    have c9:v3.cell? ⟨g,q+i*10+9,none⟩=some (.int .i64 kp):=by
      rw[q3.cell (a:=q+i*10+9) 9 (by omega) (by omega)]
      simp only[ndC,List.getElem?_cons_succ,List.getElem?_cons_zero,hTp]
    go_wp2
    go_roundw
    case rel=>exact⟨i+1,K+9+L,by omega,by rw[E9.out],by go_num,HEN,b3⟩
    case measure=>simp[intOf];omega
 have hin:i=o.length:=by omega
 subst hin
 have hlti:¬ (o.length:Int)<o.length:=by omega
 have a9:Hid (K=endK o k):=by
  have:=HE.out;rw[List.take_length] at this;exact this
 clear HE;go_wp2;go_ret;refine⟨?_,hb⟩;have h:=a9.out;subst h;rfl
theorem a8e (k:Nat) (o:List Nd) (v:Value) (w:World) (hol:o.length<=1152921504606846976) (hk0:0<k) (hk:endK o k<=1152921504606846976) (h:RS 10 CN 0 w v (mkL o k)) :
 Calls prog 8 #[.agg #[v],.int .i64 (k:Int)] w fun e w'=>e=.returned (.int .i64 ((endK o k:Nat):Int))/\Below w.heap.size w w':=by
 have hm:=fun W (hb:Below w.heap.size w W)=>a7c k o v W hol hk0 hk (h.below a5W hb)
 obtain⟨a,c,hv⟩:∃ a c,v=.slice a o.length c:=by obtain⟨a,c,e,_⟩:=h;exact⟨a,c,by rw[e,a3X]⟩
 subst hv;have bw:Below w.heap.size w (w.alloc (.cells #[.slice a o.length c] 24)):=below_alloc _ _
 have a0:¬ ((endK o k:Nat):Int)<0:=by omega
 obtain⟨E,hE⟩:∃ E,E=endK o k:=⟨_,rfl⟩;rw[<- hE] at hm a0 ⊢;clear hE;go_enter func8,ntmps8;go_wp2_with fail;refine(hm _ bw).mono ?_;rintro e w1 ⟨rfl,b1⟩;have a1:=bw.trans (b1.mono bw.size);clear bw b1;go_wp2;go_ret;exact⟨rfl,a1⟩
end Go.Proofs.YtphmpkpcamgjeaaGreatDoor
