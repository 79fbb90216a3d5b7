import Derived.Test.YtphmpkpcamgjeaaGreatDoorXAF
import Derived.Test.YtphmpkpcamgjeaaGreatDoorXBE
import Derived.Test.YtphmpkpcamgjeaaGreatDoorXAL
import Derived.Test.YtphmpkpcamgjeaaGreatDoorXAK
import Derived.Test.YtphmpkpcamgjeaaGreatDoorXAM
import Derived.Test.YtphmpkpcamgjeaaGreatDoorXBO
import Derived.Test.YtphmpkpcamgjeaaGreatDoorXBP
import Derived.Test.YtphmpkpcamgjeaaGreatDoorXAA
import Derived.Test.YtphmpkpcamgjeaaGreatDoorXBS
import Derived.Test.YtphmpkpcamgjeaaGreatDoorXBU
import Derived.Deep.RegionHeld
import Derived.Test.YtphmpkpcamgjeaaGreatDoorXBL
set_option linter.unusedVariables false
set_option linter.unusedSimpArgs false
set_option maxRecDepth 100000
set_option maxHeartbeats 16000000
namespace Go.Proofs.YtphmpkpcamgjeaaGreatDoor
open Go.ChangeShapes Go.WideShapes Go.ChangeAt Go.RowKit Go.Proofs.Tryz
open Go.Maps
def tkOf (t:Lx.Tok):Tk:=(t.1,⟨t.2.1.toArray⟩,(t.2.2:Int))
def a0A (src:ByteArray) (ts:List Lx.Tok):Env where
  ts:=ts.map tkOf
  en:=src.size
  rs:=fun s=>Lx.isRes s.data.toList
  ri:=fun s=>(Rx.Rd.rdI s.data.toList).1
  rd:=fun s=>(Rx.Rd.rdD s.data.toList).1
  rt:=fun s=>if (Rx.Rd.rdT s.data.toList).2=true then some (Rx.Rd.rdT s.data.toList).1 else none
theorem a6q {a b:ByteArray} (h:a.toList=b.toList):a=b:=by
 rw[ByteArray.toList_eq,ByteArray.toList_eq] at h;exact ByteArray.ext (Array.ext' h)
section
variable {src : ByteArray} {ts : List Lx.Tok}
theorem a1U:(a0A src ts).ts.length=ts.length:=by simp[a0A]
theorem b6E {p:Nat} (h:p<ts.length):(a0A src ts).kd p=ts[p].1/\(a0A src ts).tx p=⟨ts[p].2.1.toArray⟩/\(a0A src ts).pos p=(ts[p].2.2:Int):=by
 have:(a0A src ts).tk p=tkOf ts[p]:=by
  unfold Env.tk
  have e:(a0A src ts).ts[p]?=some (tkOf ts[p]):=by
   show(ts.map tkOf)[p]?=_
   rw[List.getElem?_map,List.getElem?_eq_getElem h];rfl
  rw[e];rfl
 simp[Env.kd,Env.tx,Env.pos,this,tkOf]
theorem b4k {p:Nat} {k:Int} (hk:(a0A src ts).kd p=k) (h0:k≠0):∃ h:p<ts.length,ts[p].1=k/\(a0A src ts).tx p=⟨ts[p].2.1.toArray⟩:=by
 rcases Nat.lt_or_ge p ts.length with h | h
 .obtain⟨a,b,_⟩:=b6E (src:=src) h;exact⟨h,a ▸ hk,b⟩
 exact absurd ((Env.tk_out (V:=a0A src ts) (p:=p) (by rw[a1U];exact h)).1.symm.trans hk).symm h0
theorem dl (l:List UInt8):(⟨l.toArray⟩:ByteArray).data.toList=l:=by simp
structure TokS (src:ByteArray) (ts:List Lx.Tok):Prop where
  n:ts.length<=2000
  sz:src.size<=8000
  tk:∀ t∈ts,TokP t
theorem TokS.of (hs:src.size<=8000) (h:Lx.LexR src.data.toList 0 [] (.ok ts)):TokS src ts:=
  ⟨b4U h (by simp) ts rfl,hs,b4T (by simpa using hs) h (by simp) ts rfl⟩
theorem TokS.tz (h:TokS src ts) (p:Nat):((a0A src ts).tx p).size<=8000:=by
 rcases Nat.lt_or_ge p ts.length with hp | hp
 .rw[(b6E (src:=src) hp).2.1];have:=(h.tk ts[p] (List.getElem_mem hp)).size;simpa[ByteArray.size] using this
 rw[(Env.tk_out (V:=a0A src ts) (p:=p) (by rw[a1U];exact hp)).2.1];decide
theorem TokS.vo (h:TokS src ts):VO (a0A src ts) src:=⟨by rw[a1U];exact h.n,rfl,h.sz⟩
theorem TokS.iv (h:TokS src ts):IV (a0A src ts) (Lx.resD 77):=⟨by rw[a1U];exact h.n,by simp[a0A],by have:=h.sz;simp only[a0A];omega,h.tz,fun p=>Lx.has_res _⟩
theorem TokS.num (h:TokS src ts) {p:Nat} (hk:(a0A src ts).kd p=3):(Rx.Rd.rdI ((a0A src ts).tx p).data.toList).2=true/\0<=(Rx.Rd.rdI ((a0A src ts).tx p).data.toList).1:=by
 obtain⟨hp,a,b⟩:=b4k hk (by decide);rw[b,dl];exact(h.tk ts[p] (List.getElem_mem hp)).num a
theorem TokS.dec (h:TokS src ts) {p:Nat} (hk:(a0A src ts).kd p=4):(Rx.Rd.rdD ((a0A src ts).tx p).data.toList).2=true:=by
 obtain⟨hp,a,b⟩:=b4k hk (by decide);rw[b,dl];exact(h.tk ts[p] (List.getElem_mem hp)).dec a
theorem TokS.sv (h:TokS src ts):SV (a0A src ts):=by
 have hz:∀ p,((a0A src ts).tx p).size<=1048576:=fun p=>Nat.le_trans (h.tz p) (by decide);refine⟨fun p _ _ w=>(Lx.spec_reserved _ w).mono ?_,fun p hk w=>(Rx.Rd.readInt_spec _ w (hz p)).mono ?_,fun p hk=>(h.num hk).2,fun p hk w=>(Rx.Rd.readDec_spec _ w (hz p)).mono ?_,fun p hk w=>(Rx.Rd.readDate_spec _ w (hz p)).mono ?_⟩
 .rintro e w' ⟨rfl,rfl⟩;exact⟨rfl,Below.refl _ _⟩
 .rintro e w' ⟨rfl,rfl⟩;exact⟨by rw[(h.num hk).1];rfl,Below.refl _ _⟩
 .rintro e w' ⟨rfl,hb⟩;exact⟨by rw[h.dec hk];rfl,hb⟩
 rintro e w' ⟨rfl,hb⟩;have hr:(a0A src ts).rt ((a0A src ts).tx p)=if (Rx.Rd.rdT ((a0A src ts).tx p).data.toList).2=true then some (Rx.Rd.rdT ((a0A src ts).tx p).data.toList).1 else none:=rfl;refine⟨(Rx.Rd.rdT ((a0A src ts).tx p).data.toList).1,?_,fun k a0=>?_,hb⟩
 .rw[hr]
  cases(Rx.Rd.rdT ((a0A src ts).tx p).data.toList).2<;>simp
 rw[hr] at a0;split at a0
 .simpa using a0
 cases a0
theorem ml_of {w:World} (h:MLt w):Rx.Rd.ML w:=⟨a0x h.1,h.2⟩
theorem TokS.ix (h:TokS src ts):IX (a0A src ts):=by
 have hz:∀ p,((a0A src ts).tx p).size<=1048576:=fun p=>Nat.le_trans (h.tz p) (by decide);have hr:∀ p,(a0A src ts).rt ((a0A src ts).tx p)=if (Rx.Rd.rdT ((a0A src ts).tx p).data.toList).2=true then some (Rx.Rd.rdT ((a0A src ts).tx p).data.toList).1 else none:=fun p=>rfl;refine⟨fun p hk w=>(Rx.Rd.castText_1 _ w (hz p)).mono ?_,fun p hk w hm=>(Rx.Rd.castText_2 _ w (hz p) (ml_of hm)).mono ?_,fun p k hk ht w=>(Rx.Rd.castText_5 _ w (hz p)).mono ?_,fun p hk ht w=>(Rx.Rd.castText_5 _ w (hz p)).mono ?_,fun p hk w=>(Rx.Rd.readInt_impl _ w (hz p)).mono ?_,fun p hk=>(h.num hk).2,fun p s hs hse=>?_⟩
 .rintro e w' ⟨rfl,hb⟩;have h1:Rx.Rd.rdK 1 ((a0A src ts).tx p)=Rx.Rd.rdI ((a0A src ts).tx p).data.toList:=rfl;exact⟨by rw[h1,Rx.Rd.ctK,if_pos (h.num hk).1];rfl,hb⟩
 .rintro e w' ⟨rfl,hb⟩;have h1:Rx.Rd.rdK 2 ((a0A src ts).tx p)=Rx.Rd.rdD ((a0A src ts).tx p).data.toList:=rfl;exact⟨by rw[h1,Rx.Rd.ctK,if_pos (h.dec hk)];rfl,hb⟩
 .rintro e w' ⟨rfl,hb⟩;have h1:Rx.Rd.rdK 5 ((a0A src ts).tx p)=Rx.Rd.rdT ((a0A src ts).tx p).data.toList:=rfl;rw[hr] at ht;split at ht
  .rename_i hy;simp only[Option.some.injEq] at ht;exact⟨by rw[h1,Rx.Rd.ctK,if_pos hy,<- ht];rfl,hb⟩
  cases ht
 .rintro e w' ⟨rfl,hb⟩;have h1:Rx.Rd.rdK 5 ((a0A src ts).tx p)=Rx.Rd.rdT ((a0A src ts).tx p).data.toList:=rfl;rw[hr] at ht;split at ht
  .cases ht
  rename_i hy;exact⟨by rw[h1,Rx.Rd.ctK,if_neg hy];rfl,hb⟩
 .rintro e w' ⟨rfl,hb⟩;exact⟨by rw[(h.num hk).1];rfl,hb⟩
 have hx:=a5B hse
 have hres:Lx.isRes s.data.toList=true:=by
  have:∀ s∈[k_exists,a4d,a4e,a2n,b1D,b1E,b1F,b1G,a1h,k_true,a2A,a3p,k_as,a0l],Lx.isRes s.data.toList=true:=by
   have h:[k_exists,a4d,a4e,a2n,b1D,b1E,b1F,b1G,a1h,k_true,a2A,a3p,k_as,a0l].all (fun s=>Lx.isRes s.data.toList)=true:=by kernel_rfl
   exact fun s hs=>List.all_eq_true.1 h s hs
  exact this s hs
 have htx:(a0A src ts).tx p=s:=a6q hx;rcases a8y hse with hk | hk
 .simp only[isNm,hk,htx];have:(a0A src ts).rs s=true:=hres;rw[this];rfl
 simp only[isNm,hk];rfl
theorem TokS.lp (h:TokS src ts):∀ p,sees (a0A src ts) p g_lp=true->isNm (a0A src ts) p=false:=fun p hse=>by
 rcases a8y hse with hk | hk
 .exfalso;obtain⟨hp,a,b⟩:=b4k hk (by decide);obtain⟨c,y,e1,e2⟩:=(h.tk ts[p] (List.getElem_mem hp)).word a;have hx:=a5B hse;have htx:(a0A src ts).tx p=g_lp:=a6q hx;rw[b,e1] at htx;have:=congrArg (fun s:ByteArray=>s.data.toList) htx;simp at this;exact e2 this.1
 simp only[isNm,hk];rfl
end
noncomputable def a3f (V:Env):List Nd×Int×Int:=
  match stmG V 0 [] with
 | .bad q=>([],3,V.pos q)
 | .ok _ q o=>
    if q+stp (sees V q a4N)<V.ts.length then([],3,V.pos (q+stp (sees V q a4N)))
    else if 0<=a2l (a1A o) then([],4,((o[(a2l (a1A o)).toNat]?).map Nd.pos).getD 0)
    else(o,0,0)
end Go.Proofs.YtphmpkpcamgjeaaGreatDoor
namespace Go.Proofs.YtphmpkpcamgjeaaGreatDoor
open Go.ChangeShapes Go.WideShapes Go.ChangeAt Go.RowKit Go.Proofs.Tryz
structure NodesOK (o:List Nd):Prop where
  n:o.length<=2000010
  kl:∀ t∈o,t.kids.length<=2005
  kd:∀ i (h:i<o.length),∀ x∈o[i].kids,∃ j:Nat,x=(j:Int)/\j<i
theorem a7S {V:Env} {a:Int} {q:Nat} {o:List Nd} (hn:V.ts.length<=2000) (hq:q<=V.ts.length) (h:stmG V 0 []=.ok a q o):NodesOK o:=by
 obtain⟨e1,q1⟩:=gr_k (V:=V) (V.ts.length+1);obtain⟨e0,q0⟩:=gr_k (V:=V) V.ts.length;obtain⟨g1,h1⟩:=a5A (V:=V) (V.ts.length+1);obtain⟨g0,h0⟩:=a5A (V:=V) V.ts.length
 have hN:GN 0 ([]:List Nd):=fun i t ht=>by simp at ht
 have hk:=b9r (V:=V) e1 g1 q1 h1 (b6F (V:=V) e0 g0 q0) (a4m (V:=V) g0 h0) 0 [] hN;have hg:=b5X (V:=V) g1 h1 (a4m (V:=V) g0 h0) 0 [] a q o h;rw[show stmF V (gr V (V.ts.length+1)).1 (gr V (V.ts.length+1)).2 (negF V (gr V V.ts.length).1 (gr V V.ts.length).2) 0 []=.ok a q o from h] at hk;obtain⟨k1,_,_,_⟩:=hk;refine⟨by simp at hg;omega,fun t ht=>?_,fun i hi x hx=>?_⟩
 .obtain⟨i,hi⟩:=List.getElem?_of_mem ht;have:=(k1 i t hi).1;omega
 have:=(k1 i o[i] (List.getElem?_eq_getElem hi)).2 x hx;exact⟨x.toNat,by omega,by omega⟩
theorem NodesOK.dk {o:List Nd} (h:NodesOK o):∀ i (hi:i<o.length),o[i].kids.length<=4000000/\∀ x∈o[i].kids,∃ j:Nat,x=(j:Int)/\j<i:=fun i hi=>
  ⟨Nat.le_trans (h.kl o[i] (List.getElem_mem hi)) (by decide),h.kd i hi⟩
theorem a5L (ds:List Int):(a2l ds=-1/\∀ i (h:i<ds.length),ds[i]<100)\/∃ k:Nat,∃ h:k<ds.length,a2l ds=(k:Int)/\100<=ds[k]/\∀ i (hi:i<k),ds[i]'(Nat.lt_trans hi h)<100:=by
 unfold a2l;by_cases ha:ds.any (fun x=>decide (100<=x))=true
 .rw[if_pos ha];right;have hlt:ds.findIdx (fun x=>decide (100<=x))<ds.length:=List.findIdx_lt_length_of_exists (by simpa using ha);refine⟨_,hlt,rfl,?_,fun i hi=>?_⟩
  .have:=List.findIdx_getElem (w:=hlt);simpa using this
  have:=List.not_of_lt_findIdx hi;simpa using this
 rw[if_neg ha];left;refine⟨rfl,fun i hi=>?_⟩;simp only[List.any_eq_true,not_exists,not_and,decide_eq_true_eq] at ha;have:=ha ds[i] (List.getElem_mem hi);omega
theorem a7T:∀ (ks:List Int) (ds:List Int) (d:Int),(a3e ds d ks).length=ds.length
 | [],_,_=>rfl
 | k::ks,ds,d=>by simp[a3e,a7T ks]
theorem b1u (ts:List Nd):∀ (n:Nat) (ds:List Int),(dRun ts n ds).length=ds.length
 | 0,_=>rfl
 | n+1,ds=>by simp[dRun,b1u ts n,a7T]
theorem a6s (o:List Nd):(a1A o).length=o.length:=by simp[a1A,b1u]
theorem a7U:∀ (ts:List Lx.Tok) (i:Nat) (h:i<ts.length) (j:Nat),j<3->(Lx.tcells ts)[i*3+j]?=[Value.int .i64 ts[i].1,.string ⟨ts[i].2.1.toArray⟩,.int .i64 (ts[i].2.2:Int)][j]?
 | t::r,0,_,j,hj=>by
  rw[Nat.zero_mul,Nat.zero_add]
  show([Value.int .i64 t.1,.string ⟨t.2.1.toArray⟩,.int .i64 (t.2.2:Int)]++Lx.tcells r)[j]?=_
  rw[List.getElem?_append_left (by simpa using hj)];rfl
 | t::r,i+1,h,j,hj=>by
  have ih:=a7U r i (by simpa using h) j hj
  show([Value.int .i64 t.1,.string ⟨t.2.1.toArray⟩,.int .i64 (t.2.2:Int)]++Lx.tcells r)[(i+1)*3+j]?=_
  rw[List.getElem?_append_right (by simp;omega)]
  have:(i+1)*3+j-[Value.int .i64 t.1,.string ⟨t.2.1.toArray⟩,.int .i64 (t.2.2:Int)].length=i*3+j:=by simp;omega
  rw[this];exact ih
theorem b4w {w:World} {b:Nat} {v:Value} {ts:List Lx.Tok} (h:w.ownsRow b 50 3 v ts.length (Lx.tcells ts)):TL 50 3 CT w v (ts.map tkOf):=by
 obtain⟨a,c,rfl⟩:=a2c h;refine⟨⟨a,c,by simp,fun hp=>?_⟩,fun g o n c' e hp=>a0n h (by rw[e];rfl)⟩;rw[List.length_map] at hp;have hh:=h;obtain⟨h1,h2⟩:=h;rcases h2 with⟨_,h0⟩ | ⟨g,cap,cur,e,a1,a0,a2⟩
 .omega
 simp only[Value.slice.injEq] at e;obtain⟨rfl,_,rfl⟩:=e;refine⟨g,0,rfl,Nat.zero_le _,(Array.getElem?_eq_some_iff.1 a0).1,fun i hi=>⟨_,rfl,fun j hj=>?_⟩⟩;rw[List.length_map] at hi;have ht:=a7U ts i hi j hj;rw[Nat.zero_add];rw[List.getElem_map]
 have hx:∃ u,[Value.int .i64 ts[i].1,.string ⟨ts[i].2.1.toArray⟩,.int .i64 (ts[i].2.2:Int)][j]?=some u:=⟨_,List.getElem?_eq_getElem (show j<3 from hj)⟩
 obtain⟨u,hu⟩:=hx;rw[hu] at ht;exact(a1M hh ht).trans hu.symm
theorem SM.low {V:Env} {src:ByteArray} {r B:Nat} {D:Nat->Prop} {w:World} {p:Nat} {x:Option (List Nd)} {m:Nat} (h:SM V src r B D w p x m) (hr:B<=r) {w':World} (s:Sp 3 r w w'):Below B w w':=by
 refine⟨s.os,s.tape,s.output,s.size,fun g hg=>s.block g (Nat.lt_of_lt_of_le hg h.hb) (fun e=>by omega) (fun e=>?_)⟩;obtain⟨tv,ov,xs,h1,_,h3,_⟩:=h.ex;unfold ob at e;rw[(cell_of h1 (j:=3)).1] at e;have:=a2Y h3 (by simpa using e);omega
theorem SM.start {V:Env} {src:ByteArray} {w:World} {tv:Value} (ht:TL 50 3 CT w tv V.ts) (B:Nat) (hB:B<=w.heap.size):SM V src w.heap.size B (fun _=>False) (w.alloc (.cells #[.string src,tv,.int .i64 0,.slice none 0 0,.bool false] 35)) 0 (some []) 0:=
  ⟨Nat.zero_le _,by simp;omega,fun _ h=>h.elim,tv,.slice none 0 0,[],heap_alloc_new _ _,ht.keep (by simp) (fun g hg=>(below_alloc w _).block g (a0x hg)) (fun h=>h),World.ownsRow_nil _ _ _ _,fun o e=>by cases e;exact⟨rfl,[],rfl⟩⟩
theorem b2F (src:ByteArray) (c p:Int) (w:World) (hc:c≠0) (hL:∀ w,Calls prog 9 #[.string src] w fun e w'=>∃ b,e=.returned (.tuple #[.slice b 0 0,.int .i64 c,.int .i64 p])/\Below w.heap.size w w') :
 Calls prog 4 #[.string src] w fun e w'=>∃ v,e=.returned (.tuple #[.agg #[v],.int .i64 c,.int .i64 p])/\RS 10 CN 0 w' v []/\Below w.heap.size w w':=by
 have hcn:((c:Int) != 0)=true:=by simpa using hc
 have bw:Below w.heap.size w (w.alloc (.cells #[.slice none 0 0] 24)):=below_alloc _ _;go_enter func4,ntmps4;go_wp2_with fail;refine(hL _).mono ?_;rintro e w1 ⟨b,rfl,b1⟩;have q1:=(b1.block w.heap.size (by simp)).trans (heap_alloc_new w (.cells #[.slice none 0 0] 24));have c1:w1.cell? ⟨w.heap.size,0,none⟩=some (.slice none 0 0):=(cell_of q1).1;have f1:w1.frozen? ⟨w.heap.size,0,none⟩=false:=(cell_of q1).2;have a0:=bw.trans (b1.mono bw.size);have e1:=heap_setCell_same w1 w.heap.size 0 _ _ (.slice none 0 0) q1;have k1:(w1.setCell ⟨w.heap.size,0,none⟩ (.slice none 0 0)).cell? ⟨w.heap.size,0,none⟩=some (.slice none 0 0):=(cell_of e1).1;have a1:=a0.setCell (p:=⟨w.heap.size,0,none⟩) (Nat.le_refl _) (.slice none 0 0);clear b1 q1 a0 bw e1;go_wp2
 refine bodyPost_ret (v:=.tuple #[.agg #[.slice none 0 0],.int .i64 c,.int .i64 p]) (by simp[results,results4,go_sem,k1]) rfl ⟨_,rfl,⟨none,0,rfl,fun h=>absurd h (by simp)⟩,a1⟩
def PostS (R:List Nd×Int×Int) (w:World) (e:Ending) (w':World):Prop:=∃ v,e=.returned (.tuple #[.agg #[v],.int .i64 R.2.1,.int .i64 R.2.2])/\RS 10 CN 0 w' v R.1/\(R.1.length<=4000000/\∀ t∈R.1,t.kids.length<=10000)/\Below w.heap.size w w'
theorem PostS.mk {R:List Nd×Int×Int} {w w':World} {v:Value} {o:List Nd} {c p:Int} (h:R=(o,c,p)) (hv:RS 10 CN 0 w' v o) (hN:NodesOK o) (hb:Below w.heap.size w w'):PostS R w (.returned (.tuple #[.agg #[v],.int .i64 c,.int .i64 p])) w':=by
 subst h;exact⟨v,rfl,hv,⟨Nat.le_trans hN.n (by decide),fun t ht=>Nat.le_trans (hN.kl t ht) (by decide)⟩,hb⟩
theorem NodesOK.nil:NodesOK []:=⟨by simp,fun t ht=>by simp at ht,fun i h=>by simp at h⟩
theorem b4y (w:World):RS 10 CN 0 w (.slice none 0 0) ([]:List Nd):=⟨none,0,rfl,fun h=>absurd h (by simp)⟩
theorem SM.setRes {V:Env} {src:ByteArray} {r B:Nat} {D:Nat->Prop} {w:World} {p:Nat} {x:Option (List Nd)} {m:Nat} (h:SM V src r B D w p x m) {z:Nat} (ht:tag w z 24) (u:Value):SM V src r B D (w.setCell ⟨z,0,none⟩ u) p x m:=
  have k:∀ g ty,tag w g ty->ty≠24->(w.setCell ⟨z,0,none⟩ u).heap[g]?=w.heap[g]?:=fun g ty hg e=>heap_setCell_other w _ g u (a0t hg ht e)
  h.keep (by simp) (k r _ h.rt (by decide)) (fun g hg=>k g _ (h.obt hg) (by decide)) (fun g hg=>k g _ hg (by decide)) (fun g hg _=>k g _ hg (by decide))
theorem SM.rs {V:Env} {src:ByteArray} {r B:Nat} {D:Nat->Prop} {w:World} {p:Nat} {o:List Nd} {m:Nat} {v:Value} (h:SM V src r B D w p (some o) m) (hc:w.cell? ⟨r,3,none⟩=some v):RS 10 CN 0 w v o:=by
 obtain⟨tv,ov,xs,g1,g2,g3,g4⟩:=h.ex;obtain⟨hom,ks,g5⟩:=g4 o rfl;subst hom;have:=(cell_of g1 (j:=3)).1;rw[hc] at this
 have e:v=ov:=by simpa using this
 subst e;exact b1k g3 g5
theorem SM.lo {V:Env} {src:ByteArray} {r B:Nat} {D:Nat->Prop} {w:World} {p:Nat} {x:Option (List Nd)} {m:Nat} {g q n c:Nat} (h:SM V src r B D w p x m) (hc:w.cell? ⟨r,3,none⟩=some (.slice (some ⟨g,q,none⟩) n c)):B<=g:=by
 obtain⟨tv,ov,xs,g1,g2,g3,g4⟩:=h.ex;have:=(cell_of g1 (j:=3)).1;rw[hc] at this
 have e:Value.slice (some ⟨g,q,none⟩) n c=ov:=by simpa using this
 subst e;rcases g3.2 with⟨e,_⟩ | ⟨g',cap,cur,e,hb,_⟩
 .cases e
 simp only[Value.slice.injEq,Option.some.injEq,Addr.mk.injEq] at e;omega
theorem b4z (src:ByteArray) (ts:List Lx.Tok) (w:World) (hT:TokS src ts) (hL:∀ w,Calls prog 9 #[.string src] w fun e w'=>∃ v,e=.returned (.tuple #[v,.int .i64 0,.int .i64 0])/\w'.ownsRow w.heap.size 50 3 v ts.length (Lx.tcells ts)/\Below w.heap.size w w') :
 Calls prog 4 #[.string src] w fun e w'=>PostS (a3f (a0A src ts)) w e w':=by
 have hV:=hT.vo;have hE:=hT.sv;have hn:=hT.n;have bw:Below w.heap.size w (w.alloc (.cells #[.slice none 0 0] 24)):=below_alloc _ _;obtain⟨P,hP⟩:∃ P,P=a3f (a0A src ts):=⟨_,rfl⟩;have HP:=hid hP;rw[<- hP];clear hP;go_enter func4,ntmps4;go_wp2_with fail;refine(hL _).mono ?_;rintro e w1 ⟨v,rfl,h1,b1⟩;have q1:=(b1.block w.heap.size (by simp)).trans (heap_alloc_new w (.cells #[.slice none 0 0] 24));have a5:=bw.trans (b1.mono bw.size);have a8:w.heap.size<w1.heap.size:=(Array.getElem?_eq_some_iff.1 q1).1;obtain⟨va,vc,hv⟩:=a2c h1;subst hv;have tl:=b4w h1
 have hlen:(ts.map tkOf).length=ts.length:=by simp
 have h0:=SM.start (V:=a0A src ts) (src:=src) (w:=w1) tl (w.heap.size+1) (by omega);have b2:=below_alloc w1 (.cells #[.string src,.slice va ts.length vc,.int .i64 0,.slice none 0 0,.bool false] 35);have a9:=a5.trans (b2.mono a5.size);have q2:=(b2.block w.heap.size a8).trans q1;clear b1 h1 tl b2 a5 q1 bw;go_wp2_with fail;refine(b3J hV hE h0 (fun o _=>by omega) (by simp only[pot,Option.isSome_some,if_true,a1U];omega)).mono ?_;rintro e w3 ⟨k,q,y,m3,rfl,h3,s3,r3⟩;generalize (w1.alloc (.cells #[.string src,.slice va ts.length vc,.int .i64 0,.slice none 0 0,.bool false] 35))=W2 at *;obtain⟨r,hr⟩:∃ r,r=w1.heap.size:=⟨_,rfl⟩;rw[<- hr] at h0 h3 s3 ⊢
 have hrr:w.heap.size+1<=r:=by omega
 clear hr a8;have q3:=((h0.nb ⟨_,_,q2⟩ (by decide) (by decide)).heap s3).trans q2;have b0:Below w.heap.size w w3:=a9.trans ((h0.low hrr s3).mono (by omega));have hY:=r3.yes [] rfl
 have c5:m3<=4000000:=by have:=r3.pt;simp only[pot,Option.isSome_some,if_true,a1U] at this;omega
 clear r3 s3 h0 q2 a9;go_wp2_with fail;refine(a0b hV h3 a4N).mono ?_;rintro e w4 ⟨b,rfl,hq,h4,s4⟩;have q4:=((h3.nb ⟨_,_,q3⟩ (by decide) (by decide)).heap s4).trans q3;have a0:Below w.heap.size w w4:=b0.trans ((h3.low hrr s4).mono (by omega));clear s4 h3 q3 b0;obtain⟨ta,tc,oa,oc,c0,c1,c2,c3,c4,f2,f3,f4,ht⟩:=h4.cells;clear ht f2 f3 f4 c0 c1;have k4:w4.cell? ⟨w.heap.size,0,none⟩=some (.slice none 0 0):=(cell_of q4).1;have z4:w4.frozen? ⟨w.heap.size,0,none⟩=false:=(cell_of q4).2;have e1:=heap_setCell_same w4 w.heap.size 0 _ _ (.slice none 0 0) q4
 cases y with
 | none=>
  have hb:b=false:=by unfold Tq at hq;simpa using hq
  subst hb
  have HR:Hid (P=([],3,(a0A src ts).pos q)):=by
   show P=([],3,(a0A src ts).pos q)
   rw[HP.out];unfold a3f;rw[hY];rfl
  have a4:w4.cell? ⟨r,4,none⟩=some (.bool true):=c4;clear c4 hY HP;go_wp2_with fail;refine(a0C hV h4).mono ?_;rintro e w5 ⟨rfl,b5⟩;have q5:=(b5.block w.heap.size (Array.getElem?_eq_some_iff.1 q4).1).trans q4;have k5:w5.cell? ⟨w.heap.size,0,none⟩=some (.slice none 0 0):=(cell_of q5).1;have z5:w5.frozen? ⟨w.heap.size,0,none⟩=false:=(cell_of q5).2;have e5:=heap_setCell_same w5 w.heap.size 0 _ _ (.slice none 0 0) q5;have k6:(w5.setCell ⟨w.heap.size,0,none⟩ (.slice none 0 0)).cell? ⟨w.heap.size,0,none⟩=some (.slice none 0 0):=(cell_of e5).1;have a1:=(a0.trans (b5.mono a0.size)).setCell (p:=⟨w.heap.size,0,none⟩) (Nat.le_refl _) (.slice none 0 0);clear b5 q5 e5 q4 e1 k4 z4 c2 c3 a4 h4;go_wp2
  exact bodyPost_ret (v:=.tuple #[.agg #[.slice none 0 0],.int .i64 3,.int .i64 ((a0A src ts).pos (q+stp false))]) (by simp[results,results4,go_sem,k6]) rfl (PostS.mk HR.out (b4y _) NodesOK.nil a1)
 | some o=>
 have hb:b=sees (a0A src ts) q a4N:=by unfold Tq at hq;simpa using hq
 have a2:stmG (a0A src ts) 0 []=.ok k q o:=hY;have a4:w4.cell? ⟨r,4,none⟩=some (.bool false):=c4;have a6:=h4.le;obtain⟨q',hq'⟩:∃ q',q'=q+stp b:=⟨_,rfl⟩;rw[<- hq'] at h4 c2 a6;rw[a1U] at a6
 have hqi:(q':Int)<=2000:=by omega
 have HB:=hid hb;have HQ:=hid hq'
 have hqle:q<=q':=by omega
 clear c4 hb hq' hq;by_cases hlt:q'<ts.length
 .have hlti:(q':Int)<ts.length:=by omega
  have hd:decide ((q':Int)<(ts.length:Int))=true:=by simpa using hlti
  have HR:Hid (P=([],3,(a0A src ts).pos q')):=by
   show P=([],3,(a0A src ts).pos q')
   rw[HP.out];unfold a3f;rw[a2];dsimp only;rw[<- HB.out,<- HQ.out,if_pos (by rw[a1U];exact hlt)]
  clear HP hY a2;go_wp2_with fail;refine(a0C hV h4).mono ?_;rintro e w5 ⟨rfl,b5⟩;have q5:=(b5.block w.heap.size (Array.getElem?_eq_some_iff.1 q4).1).trans q4;have k5:w5.cell? ⟨w.heap.size,0,none⟩=some (.slice none 0 0):=(cell_of q5).1;have z5:w5.frozen? ⟨w.heap.size,0,none⟩=false:=(cell_of q5).2;have e5:=heap_setCell_same w5 w.heap.size 0 _ _ (.slice none 0 0) q5;have k6:(w5.setCell ⟨w.heap.size,0,none⟩ (.slice none 0 0)).cell? ⟨w.heap.size,0,none⟩=some (.slice none 0 0):=(cell_of e5).1;have a1:=(a0.trans (b5.mono a0.size)).setCell (p:=⟨w.heap.size,0,none⟩) (Nat.le_refl _) (.slice none 0 0);clear b5 q5 e5 q4 e1 k4 z4 c2 c3 a4 h4;go_wp2;exact bodyPost_ret (v:=.tuple #[.agg #[.slice none 0 0],.int .i64 3,.int .i64 ((a0A src ts).pos q')]) (by simp[results,results4,go_sem,k6]) rfl (PostS.mk HR.out (b4y _) NodesOK.nil a1)
 have hlti:¬ (q':Int)<ts.length:=by omega
 have hN:=a7S (V:=a0A src ts) (by rw[a1U];exact hn) (by rw[a1U];omega) a2
 have hom:o.length=m3:=by
  obtain⟨tv,ov,xs,g1,g2,g3,g4⟩:=h4.ex;exact(g4 o rfl).1
 subst hom;have hrs:=h4.rs c3;clear hY
 have hd:decide ((q':Int)<(ts.length:Int))=false:=by simpa using hlti
 have a3:Hid (P=if 0<=a2l (a1A o) then([],4,((o[(a2l (a1A o)).toNat]?).map Nd.pos).getD 0) else(o,0,0)):=by
  show P=_
  rw[HP.out];unfold a3f;rw[a2];dsimp only;rw[<- HB.out,<- HQ.out,if_neg (by rw[a1U];exact hlt)]
 have hol:=hN.n;clear HP a2 hV hE hT;go_wp2_with fail;refine(b4h o _ w4 (Nat.le_trans hN.n (by decide)) hN.dk hrs).mono ?_;rintro e w5 ⟨dv,rfl,rd,b5⟩;have hdl:=a6s o;have HC:=hid (a5L (a1A o))
 obtain⟨da,dc,hdv⟩:∃ a c,dv=.slice a o.length c:=by obtain⟨a,c,e,_⟩:=rd;exact⟨a,c,by rw[e,hdl]⟩
 subst hdv;have HRD:=hid rd;have q5:=(b5.block w.heap.size (Array.getElem?_eq_some_iff.1 q4).1).trans q4;have k5:w5.cell? ⟨w.heap.size,0,none⟩=some (.slice none 0 0):=(cell_of q5).1;have z5:w5.frozen? ⟨w.heap.size,0,none⟩=false:=(cell_of q5).2;have h5:=h4.below b5;have a7:w5.cell? ⟨r,3,none⟩=some (.slice oa o.length oc):=(b5.cell (p:=⟨r,3,none⟩) h4.rl).trans c3;have b6:=hrs.below a5W b5;have b3:=a0.trans (b5.mono a0.size)
 have hnr:w.heap.size≠r:=by omega
 generalize a1A o=ds at *;have H5:=hid h5;clear rd b5 h5 q4 e1 k4 z4 c2 c3 a4 h4 hrs a0;go_wp2;go_loopw [52] (fun iv wr=>∃ i:Nat,i<=o.length/\iv=.int .i64 i/\Hid (∀ j (h:j<ds.length),j<i->ds[j]<100)/\wr=w5) (fun iv _=>o.length-(intOf iv).toNat)
 case atStart=>exact⟨0,Nat.zero_le _,rfl,hid (fun j h hj=>absurd hj (Nat.not_lt_zero _)),rfl⟩
 case round=>
 obtain⟨i,hi,rfl,HA,hww⟩:=hrel;replace hww:=hww.symm;subst hww;by_cases hil:i<o.length
 .have hili:(i:Int)<o.length:=by omega
  have hid:i<ds.length:=by omega
  obtain⟨_,_,he,hcu⟩:=HRD.out;rw[hdl] at he;cases he;obtain⟨dg,dq,rfl,_,hdg,hcc⟩:=hcu (by omega);obtain⟨cs,hcs,h1⟩:=hcc i hid;unfold CI at hcs;subst hcs
  have x1:w5.cell? ⟨dg,dq+i,none⟩=some (.int .i64 ds[i]):=by simpa using h1 0 (by omega)
  clear h1 hcc hcu;by_cases hdp:100<=ds[i]
  .have HR:Hid (P=([],4,o[i].pos)):=by
    show P=([],4,o[i].pos)
    have hf:a2l ds=(i:Int):=by
     rcases HC.out with⟨_,h⟩ | ⟨k,hk,e,b7,hlo⟩
     .have:=h i hid;omega
     rcases Nat.lt_trichotomy k i with z | z | z
     .have:=HA.out k hk z;omega
     .rw[e,z]
     have:=hlo i z;omega
    rw[a3.out,if_pos (by rw[hf];omega),hf];simp[List.getElem?_eq_getElem hil]
   have hlo:=fun g q c h=>H5.out.lo (g:=g) (q:=q) (n:=o.length) (c:=c) h;obtain⟨g,gq,c,kv,hae,b4⟩:=b8k b6 (List.getElem?_eq_getElem hil);cases hae
   have x9:w5.cell? ⟨g,gq+i*10+9,none⟩=some (.int .i64 o[i].pos):=by
    rw[b4.cell (a:=gq+i*10+9) 9 (by omega) (by omega)];rfl
   have a1:=b3.setCell (p:=⟨w.heap.size,0,none⟩) (Nat.le_refl _) (.slice none 0 0)
   have hgw:w.heap.size≠g:=by have:=hlo _ _ _ a7;omega
   clear hlo;have k6:(w5.setCell ⟨w.heap.size,0,none⟩ (.slice none 0 0)).cell? ⟨w.heap.size,0,none⟩=some (.slice none 0 0):=(cell_of (heap_setCell_same w5 w.heap.size 0 _ _ (.slice none 0 0) q5)).1;generalize o[i].pos=ps at *;generalize ds[i]=dd at *;clear HRD HC HA a3 b4;go_wp2;go_region_held (fun W=>W.cell? ⟨r,3,none⟩=some (.slice (some ⟨g,gq,none⟩) o.length oc)/\W.cell? ⟨g,gq+i*10+9,none⟩=some (.int .i64 ps)) (go_keep) (fail)
   all_goals
     go_wp2
     exact bodyPost_ret (v:=.tuple #[.agg #[.slice none 0 0],.int .i64 4,.int .i64 ps]) (by simp[results,results4,go_sem,k6]) rfl (PostS.mk HR.out (b4y _) NodesOK.nil a1.drew)
  have b9:Hid (∀ j (h:j<ds.length),j<i+1->ds[j]<100):=fun j h hj=>by
   by_cases e:j=i
   .subst e;omega
   exact HA.out j h (by omega)
  generalize ds[i]=dd at *;clear HRD HC HA a3;go_wp2;go_roundw
  case rel=>exact⟨i+1,by omega,by go_num,b9,by first | rfl | trivial⟩
  case measure=>simp[intOf];omega
 have hie:i=o.length:=by omega
 subst hie
 have hili:¬ (o.length:Int)<o.length:=by omega
 have HR:Hid (P=(o,0,0)):=by
  show P=(o,0,0)
  have hf:a2l ds=-1:=by
   rcases HC.out with⟨e,_⟩ | ⟨k,hk,e,b7,hlo⟩
   .exact e
   have:=HA.out k hk (by omega);omega
  rw[a3.out,hf,if_neg (by decide)]
 have e5:=heap_setCell_same w5 w.heap.size 0 _ _ (.slice oa o.length oc) q5;have k6:(w5.setCell ⟨w.heap.size,0,none⟩ (.slice oa o.length oc)).cell? ⟨w.heap.size,0,none⟩=some (.slice oa o.length oc):=(cell_of e5).1;have a1:=b3.setCell (p:=⟨w.heap.size,0,none⟩) (Nat.le_refl _) (.slice oa o.length oc);have b8:RS 10 CN 0 (w5.setCell ⟨w.heap.size,0,none⟩ (.slice oa o.length oc)) (.slice oa o.length oc) o:=(H5.out.setRes ⟨_,_,q5⟩ _).rs ((World.cell?_setCell_other w5 ⟨w.heap.size,0,none⟩ ⟨r,3,none⟩ _ (fun e=>hnr (congrArg Addr.block e))).trans a7);clear HRD HC HA a3;go_wp2;exact bodyPost_ret (v:=.tuple #[.agg #[.slice oa o.length oc],.int .i64 0,.int .i64 0]) (by simp[results,results4,go_sem,k6]) rfl (PostS.mk HR.out b8 hN a1)
end Go.Proofs.YtphmpkpcamgjeaaGreatDoor
namespace Go.Proofs.YtphmpkpcamgjeaaGreatDoor
open Go.ChangeShapes Go.WideShapes Go.ChangeAt Go.RowKit Go.Proofs.Tryz
open Go.Maps
def PostT (R:List Nd×Int×Int) (w:World) (e:Ending) (w':World):Prop:=Below w.heap.size w w'/\((R.2.1=0/\R.2.2=0/\∃ v xs ks,e=.returned v/\TR w' w.heap.size v R.1 xs ks)\/(R.2.1≠0/\R.1=[]/\e=.panicked (flt R.2.1 R.2.2)))
theorem PostT.ok {R:List Nd×Int×Int} {w w':World} {o:List Nd} {v:Value} {xs ks:List Value} (h:R=(o,0,0)) (ht:TR w' w.heap.size v o xs ks) (hb:Below w.heap.size w w'):PostT R w (.returned v) w':=by
 subst h;exact⟨hb,.inl ⟨rfl,rfl,v,xs,ks,rfl,ht⟩⟩
theorem PostT.bad {R:List Nd×Int×Int} {w w':World} {c p:Int} (h:R=([],c,p)) (hc:c≠0) (hb:Below w.heap.size w w'):PostT R w (.panicked (flt c p)) w':=by
 subst h;exact⟨hb,.inr ⟨hc,rfl,rfl⟩⟩
theorem a8h (src:ByteArray) (c p:Int) (w:World) (hc:c≠0) (hL:Calls prog 30 #[.string src] w fun e w'=>e=.returned (.tuple #[.slice none 0 0,.int .i64 c,.int .i64 p])/\Below w.heap.size w w') :
 Calls prog 16 #[.string src] w fun e w'=>PostT ([],c,p) w e w':=by
 have hcn:((c:Int) != 0)=true:=by simpa using hc
 go_enter func16,ntmps16;go_wp2_with fail;refine hL.mono ?_;rintro e w1 ⟨rfl,b1⟩;go_wp2;exact⟨rfl,PostT.bad rfl hc b1⟩
theorem IM.start {V:Env} {Mx:DataW Unit} {w:World} {tv:Value} {mb:Nat} (ht:TL 50 3 CT w tv V.ts) (hm:w.ownsMap prog 9 (unitElem (H:=Unit)) mb 77 Mx) (hml:MLt w) (B:Nat) (hB:B<=w.heap.size):IM V Mx w.heap.size B (fun _=>False) (w.alloc (.cells #[tv,.int .i64 0,.int .i64 V.en,.map (some mb),.slice none 0 0] 64)) 0 []:=
  ⟨Nat.zero_le _,hB,hml.heap ((below_alloc w _).block 3 (a0x hml.1)),fun h=>h,by simp;omega,fun _ h=>h.elim,tv,mb,.slice none 0 0,[],[],heap_alloc_new _ _,ht.keep (by simp) (fun g hg=>(below_alloc w _).block g (a0x hg)) (fun h=>h),a1I hm ((below_alloc w _).block mb hm.lt),World.ownsRow_nil _ _ _ _,rfl⟩
theorem IM.tr {V:Env} {Mx:DataW Unit} {r B:Nat} {w:World} {p:Nat} {o:List Nd} {v:Value} (h:IM V Mx r B (fun _=>False) w p o) (hc:w.cell? ⟨r,4,none⟩=some v):∃ xs ks,TR w B v o xs ks:=by
 obtain⟨tv,mb,ov,xs,ks,g1,g2,g5,g3,g4⟩:=h.ex;have:=(cell_of g1 (j:=4)).1;rw[hc] at this
 have e:v=ov:=by simpa using this
 subst e;exact⟨xs,ks,g3,g4⟩
theorem b0E (src:ByteArray) (ts:List Lx.Tok) (w:World) (hT:TokS src ts) (hM:MLt w) (hL:Calls prog 30 #[.string src] w fun e w'=>∃ v,e=.returned (.tuple #[v,.int .i64 0,.int .i64 0])/\w'.ownsRow w.heap.size 50 3 v ts.length (Lx.tcells ts)/\Below w.heap.size w w') :
 Calls prog 16 #[.string src] w fun e w'=>PostT (a3f (a0A src ts)) w e w':=by
 have hV:=hT.iv;have hX:=hT.ix;have hn:=hT.n;have hsz:=hT.sz;obtain⟨P,hP⟩:∃ P,P=a3f (a0A src ts):=⟨_,rfl⟩;have HP:=hid hP;rw[<- hP];clear hP;go_enter func16,ntmps16;go_wp2_with fail;refine hL.mono ?_;rintro e w1 ⟨v,rfl,h1,b1⟩;have a2:MLt w1:=hM.heap (b1.block 3 (a0x hM.1));obtain⟨mm,hmm⟩:=a2.2;obtain⟨va,vc,hv⟩:=a2c h1;subst hv;have tl:=b4w h1;go_wp2_with fail;refine(Lx.reservedWords_any mm w1 hmm).mono ?_;rintro e w2 ⟨rfl,hown,b2⟩;have a9:MLt w2:=a2.heap (b2.block 3 (a0x a2.1));have b0:=tl.keep (w':=w2) b2.size (fun g hg=>b2.block g (a0x hg)) (fun h=>h);have a3:=b1.trans (b2.mono b1.size)
 have hlen:(ts.map tkOf).length=ts.length:=by simp
 have h0:=IM.start (V:=a0A src ts) (Mx:=Lx.resD 77) b0 hown a9 w.heap.size a3.size;have en:(a0A src ts).en=(src.size:Int):=rfl;rw[en] at h0;have b3:=below_alloc w2 (.cells #[.slice va ts.length vc,.int .i64 0,.int .i64 src.size,.map (some (w1.heap.size+1)),.slice none 0 0] 64);have a4:=a3.trans (b3.mono a3.size);clear h1 tl b0 hown b1 b2 b3 a2 a9 hmm a3;go_wp2_with fail;refine(b5I hV hX hT.lp h0 (by omega) (by simp)).mono ?_;intro e w3 hPo;generalize (w2.alloc (.cells #[.slice va ts.length vc,.int .i64 0,.int .i64 src.size,.map (some (w1.heap.size+1)),.slice none 0 0] 64))=W2 at *;obtain⟨r,hr⟩:∃ r,r=w2.heap.size:=⟨_,rfl⟩;rw[<- hr] at h0 hPo ⊢;clear hr en
 cases hS:stmG (a0A src ts) 0 [] with
 | bad q=>
  rw[hS] at hPo;obtain⟨rfl,bb⟩:=hPo
  have HR:Hid (P=([],3,(a0A src ts).pos q)):=by
   show P=([],3,(a0A src ts).pos q)
   rw[HP.out];unfold a3f;rw[hS]
  have a5:=a4.trans bb;clear HP hS bb a4 h0;go_wp2;exact⟨rfl,PostT.bad HR.out (by decide) a5⟩
 | ok k q o=>
 rw[hS] at hPo;obtain⟨rfl,h3,s3⟩:=hPo;have a5:=a4.trans (h0.low s3);clear a4 s3 h0;go_wp2_with fail;refine(a1m hV h3 a4N).mono ?_;rintro e w4 ⟨rfl,h4,s4⟩;have a1:=a5.trans (h3.low s4);clear a5 s4 h3
 have a0:Hid (P=if q+stp (sees (a0A src ts) q a4N)<(a0A src ts).ts.length then([],3,(a0A src ts).pos (q+stp (sees (a0A src ts) q a4N))) else if 0<=a2l (a1A o) then([],4,((o[(a2l (a1A o)).toNat]?).map Nd.pos).getD 0) else(o,0,0)):=by
  show P=_
  rw[HP.out];unfold a3f;rw[hS]
 obtain⟨b,hb⟩:∃ b,b=sees (a0A src ts) q a4N:=⟨_,rfl⟩;rw[<- hb] at h4 a0 ⊢;obtain⟨q',hq'⟩:∃ q',q'=q+stp b:=⟨_,rfl⟩
 have hqq:q<=q':=by omega
 rw[<- hq'] at h4 a0;have b7:=h4.le;rw[a1U] at b7 a0;have b8:=hid hS;clear hb hq' HP hS;obtain⟨ta,tc,mb,oa,oc,c0,c1,c2,c3,c4,fz,hmap,ht⟩:=h4.cells;clear c0 c2 c3 hmap ht fz
 have hqi:(q':Int)<=2000:=by omega
 by_cases hlt:q'<ts.length
 .have hlti:(q':Int)<ts.length:=by omega
  have HR:Hid (P=([],3,(a0A src ts).pos q')):=by
   show P=([],3,(a0A src ts).pos q')
   rw[a0.out,if_pos hlt]
  clear a0;go_wp2_with fail;refine(a1u hV h4).mono ?_;rintro e w5 ⟨rfl,b5⟩;have a6:=a1.trans (b5.mono a1.size);clear c1 c4 h4 b5 a1;go_wp2;exact⟨rfl,PostT.bad HR.out (by decide) a6⟩
 have hlti:¬ (q':Int)<ts.length:=by omega
 have hN:=a7S (V:=a0A src ts) (by rw[a1U];exact hn) (by rw[a1U];omega) b8.out;obtain⟨xs,ks,a7⟩:=h4.tr c4;have hol:=hN.n;go_wp2_with fail;refine(b4j o _ w4 (Nat.le_trans hN.n (by decide)) hN.dk a7.rs).mono ?_;rintro e w5 ⟨rfl,b5⟩;have a6:=a1.trans (b5.mono a1.size);have a8:=a7.below b5;have b9:=(b5.cell (p:=⟨r,4,none⟩) h4.rl).trans c4;have hdl:=a6s o;rcases a5L (a1A o) with⟨e,_⟩ | ⟨k2,c5,e,_,_⟩
 .have HR:Hid (P=(o,0,0)):=by
   show P=(o,0,0)
   rw[a0.out,if_neg hlt,e,if_neg (by decide)]
  rw[e];clear a0 e hdl a7 b5 a1 c1 c4 h4;go_wp2;go_ret;exact PostT.ok HR.out a8 a6
 have b4:k2<o.length:=by omega
 have HR:Hid (P=([],4,o[k2].pos)):=by
  show P=([],4,o[k2].pos)
  rw[a0.out,if_neg hlt,e,if_pos (by omega)];simp[List.getElem?_eq_getElem b4]
 rw[e];obtain⟨g,gq,c,kv,hae,b6⟩:=b8k a8.rs (List.getElem?_eq_getElem b4)
 have hki:(k2:Int)<o.length:=by omega
 have c6:(0:Int)<=k2:=by omega
 simp only[Value.slice.injEq,true_and] at hae;obtain⟨rfl,rfl⟩:=hae
 have x9:w5.cell? ⟨g,gq+k2*10+9,none⟩=some (.int .i64 o[k2].pos):=by
  rw[b6.cell (a:=gq+k2*10+9) 9 (by omega) (by omega)];rfl
 generalize o[k2].pos=ps at *;clear a0 e hdl a7 a8 b5 a1 c1 c4 h4 b6;go_wp2;exact⟨rfl,PostT.bad HR.out (by decide) a6⟩
end Go.Proofs.YtphmpkpcamgjeaaGreatDoor
