import Derived.Test.YtphmpkpcamgjeaaGreatDoorXAA
import Derived.Test.YtphmpkpcamgjeaaGreatDoorXBM
import Derived.Shelf.Abstract
set_option linter.unusedVariables false
set_option linter.unusedSimpArgs false
set_option maxRecDepth 100000
set_option maxHeartbeats 16000000
namespace Go.Proofs.YtphmpkpcamgjeaaGreatDoor
open Go.ChangeShapes Go.WideShapes Go.ChangeAt Go.RowKit Go.Proofs.Tryz
open Go.Shelf
theorem b6D {w:World} {b n:Nat} {ds:List Int} {g:Nat} (hd:ds.length=n) (ho:w.ownsRow b 3 1 (.slice (some ⟨g,0,none⟩) n n) n (ds.map (Value.int .i64))):RS 1 CI 0 w (.slice (some ⟨g,0,none⟩) n n) ds:=
 ⟨some ⟨g,0,none⟩,n,by rw[hd],fun hp=>⟨g,0,rfl,Nat.zero_le _,(ho.lt _ rfl).2,fun i hi=>⟨_,rfl,fun j hj=>by
 have h0:j=0:=by omega
 subst h0;have:=a1M ho (j:=i) (u:=.int .i64 ds[i]) (by rw[List.getElem?_map,List.getElem?_eq_getElem hi];rfl);simpa using this⟩⟩⟩
def a3e (ds:List Int) (d:Int):List Int->List Int
 | []=>ds
 | k::ks=>a3e (ds.set k.toNat (d+1)) d ks
def dRun (ts:List Nd):Nat->List Int->List Int
 | 0,ds=>ds
 | n+1,ds=>dRun ts n (a3e ds (ds.getD n 0) ((ts[n]?.map Nd.kids).getD []))
def a1A (ts:List Nd):List Int:=dRun ts ts.length (List.replicate ts.length 0)
theorem b4h (ts:List Nd) (nv:Value) (w:World) (hL:ts.length<=4000000) (hK:∀ i (h:i<ts.length),ts[i].kids.length<=4000000/\∀ x∈ts[i].kids,∃ j:Nat,x=(j:Int)/\j<i) (hN:RS 10 CN 0 w nv ts) :
 Calls prog 13 #[nv] w fun e w'=>∃ v,e=.returned v/\RS 1 CI 0 w' v (a1A ts)/\Below w.heap.size w w':=by
 obtain⟨i0,hi,a3,a4,a5⟩:=info_parts b1K;obtain⟨a,cap,rfl,hcells⟩:=hN;go_enter func13,ntmps13;go_wp2_with (refine wpList_make_full _ rfl (.tmp 8) (.tmp 8) 37 rfl w.heap.size 3 i0 _ 1 underlying37 hi a3 a4 .i64 .i64 ts.length ts.length ts.length rfl rfl rfl rfl (by rw[a5];omega) (by unfold maxLen;omega) (Nat.le_refl _) ?_;intro w1 hown hgrow);have HB:Hid (Below w.heap.size w w1):=(Below.refl _ _).grown hgrow (Nat.le_refl _) (fun k hk=>by simp at hk);have hb:=HB.out;have b0:=hb.size
 have hwr:IntKind.i64.wrap ((ts.length:Int)-1)=(ts.length:Int)-1:=by simp only[IntKind.wrap_i64,wrap64];omega
 go_wp2;go_loopw [4] (fun iv wr=>∃ (n:Nat) (ds:List Int),n<=ts.length/\iv=.int .i64 ((n:Int)-1)/\ds.length=ts.length/\Hid (∀ x∈ds,0<=x/\x+n<=ts.length)/\Hid (dRun ts n ds=a1A ts)/\wr.ownsRow w.heap.size 3 1 (.slice (some ⟨w.heap.size,0,none⟩) ts.length ts.length) ts.length (ds.map (Value.int .i64))/\Below w.heap.size w wr) (fun iv _=>((intOf iv)+1).toNat)
 case atStart=>
  refine⟨ts.length,List.replicate ts.length 0,Nat.le_refl _,rfl,by simp,(fun x hx=>by rw[List.mem_replicate] at hx;omega:∀ x∈List.replicate ts.length (0:Int),0<=x/\x+(ts.length:Int)<=ts.length),rfl,?_,hb⟩;have h0:(Value.int IntKind.i64 0).cells=#[Value.int IntKind.i64 0]:=rfl;simpa[madeCells,h0,Nat.mod_one,List.map_const'] using hown
 case round=>
 obtain⟨n,ds,hn,rfl,hdl,HX,HD,ho,hbel⟩:=hrel;obtain⟨w0,a6⟩:∃ x,x=wr:=⟨_,rfl⟩;subst a6;have hbs:=hbel.size
 cases n with
 | zero=>
  have HE:Hid (ds=a1A ts):=HD.out;go_wp2;go_ret;refine⟨_,rfl,?_,hbel⟩;rw[<- HE.out];exact b6D hdl ho
 | succ i=>
 rw[show((i+1:Nat):Int)-1=(i:Int) by omega]
 have a0:i<ts.length:=by omega
 have hii:(i:Int)<ts.length:=by omega
 have hwi:IntKind.i64.wrap ((i:Int)-1)=(i:Int)-1:=by simp only[IntKind.wrap_i64,wrap64];omega
 obtain⟨g,o,rfl,_,hg,hgc⟩:=hcells (by omega);obtain⟨cs,⟨kv,hcs,hKR⟩,hNA⟩:=hgc i a0;subst hcs;have c8:w0.cell? ⟨g,o+i*10+8,none⟩=some kv:=(hbel.cell (p:=⟨g,o+i*10+8,none⟩) hg).trans (hNA 8 (by omega));obtain⟨ka,kc,rfl,hkc⟩:=hKR;obtain⟨hkl,hkj⟩:=hK i a0;obtain⟨d,hd⟩:∃ d,ds[i]?=some d:=⟨_,List.getElem?_eq_getElem (by omega)⟩;have hdb:=HX.out d (List.mem_of_getElem? hd)
 have a1:Hid (dRun ts i (a3e ds d ts[i].kids)=a1A ts):=hid (by
   have:=HD.out
   unfold dRun at this
   rw[List.getElem?_eq_getElem a0,Option.map_some,Option.getD_some,List.getD_eq_getElem?_getD,hd,Option.getD_some] at this
   exact this)
 have a7:=HX.out;clear HD hgc hNA HX;generalize ts[i].kids=ks at *;go_wp2;go_loopw [23] (fun mv wx=>∃ (m:Nat) (es:List Int),m<=ks.length/\mv=.int .i64 m/\es.length=ts.length/\es[i]?=some d/\Hid (∀ x∈es,0<=x/\x+i<=ts.length)/\Hid (a3e es d (ks.drop m)=a3e ds d ks)/\wx.ownsRow w.heap.size 3 1 (.slice (some ⟨w.heap.size,0,none⟩) ts.length ts.length) ts.length (es.map (Value.int .i64))/\Below w.heap.size w wx) (fun mv _=>ks.length-(intOf mv).toNat)
 case atStart=>exact⟨0,ds,Nat.zero_le _,rfl,hdl,hd,(fun x hx=>by have:=a7 x hx;omega:∀ x∈ds,0<=x/\x+(i:Int)<=ts.length),(by simp:a3e ds d (ks.drop 0)=a3e ds d ks),ho,hbel⟩
 case round=>
 obtain⟨m,es,hm,rfl,hel,hed,HEX,HED,hoe,hbe⟩:=hrel;have hbes:=hbe.size;by_cases hlt:m<ks.length
 .have hlti:(m:Int)<ks.length:=by omega
  obtain⟨kg,ko,rfl,_,hkg,hkcc⟩:=hkc (by omega);obtain⟨cs,hcs,hkk⟩:=hkcc m hlt;unfold CI at hcs;subst hcs;have k0:=(hbe.cell (p:=⟨kg,ko+m,none⟩) hkg).trans (by simpa using hkk 0 (by omega));clear hkk;obtain⟨j,hj,hji⟩:=hkj _ (List.getElem_mem hlt);rw[hj] at k0
  have hjt:(j:Int)<ts.length:=by omega
  have e0:=a1M hoe (j:=i) (u:=.int .i64 d) (by rw[List.getElem?_map,hed];rfl);obtain⟨y0,a2⟩:∃ u,es[j]?=some u:=⟨_,List.getElem?_eq_getElem (by omega)⟩;have e1:=a1M hoe (j:=j) (u:=.int .i64 y0) (by rw[List.getElem?_map,a2];rfl);have f1:=hoe.frozenAt j
  have hwd:IntKind.i64.wrap (d+1)=d+1:=by simp only[IntKind.wrap_i64,wrap64];omega
  have a8:Hid (World.ownsRow (wr.setCell ⟨w.heap.size,j,none⟩ (.int .i64 (d+1))) w.heap.size 3 1 (.slice (some ⟨w.heap.size,0,none⟩) ts.length ts.length) ts.length ((es.set j (d+1)).map (Value.int .i64))):=hid (by
    have:=(hoe.stored j (.int .i64 (d+1))).1
    rw[List.map_set];exact this)
  have HS:Hid (a3e (es.set j (d+1)) d (ks.drop (m+1))=a3e ds d ks):=hid (by
    have:=HED.out
    rw[List.drop_eq_getElem_cons hlt,hj] at this
    exact this)
  have a9:Hid (∀ x∈es.set j (d+1),0<=x/\x+(i:Int)<=ts.length):=hid (fun x hx=>by
   rcases List.mem_or_eq_of_mem_set hx with h | h
   .exact HEX.out x h
   subst h;omega)
  have hei:(es.set j (d+1))[i]?=some d:=by rw[List.getElem?_set_ne (by omega)];exact hed
  have hesl:(es.set j (d+1)).length=ts.length:=by rw[List.length_set];exact hel
  clear hkcc HED HEX a2 hj hed hel hdl hd;go_wp2;go_roundw
  case rel=>exact⟨m+1,es.set j (d+1),by omega,by go_num,hesl,hei,a9,HS,a8.out,hbe.setCell (Nat.le_refl _) _⟩
  case measure=>simp[intOf];omega
 have hmn:m=ks.length:=by omega
 subst hmn
 have hlti:¬ (ks.length:Int)<ks.length:=by omega
 have HE:Hid (dRun ts i es=a1A ts):=hid (by
   have:=HED.out
   rw[List.drop_length] at this
   rw[show es=a3e ds d ks from this];exact a1.out)
 clear HED a1 hdl hd hed;go_wp2;go_roundw
 case rel=>exact⟨i,es,by omega,rfl,hel,HEX,HE,hoe,hbe⟩
 case measure=>simp[intOf]
end Go.Proofs.YtphmpkpcamgjeaaGreatDoor
namespace Go.Proofs.YtphmpkpcamgjeaaGreatDoor
open Go.ChangeShapes Go.WideShapes Go.ChangeAt Go.RowKit Go.Proofs.Tryz
open Go.Shelf
def a2l (ds:List Int):Int:=if ds.any (fun x=>decide (100<=x)) then(ds.findIdx (fun x=>decide (100<=x)):Nat) else -1
theorem b1l (b:Int) (w:World):Calls prog 80 #[.int .i64 b] w fun e w'=>e=.returned (.bool (decide (100<=b)))/\w'=w:=by
 go_enter func80,ntmps80;go_wp2;go_ret;exact⟨rfl,rfl⟩
theorem b7U:∀ args w,(callFunc 80 args).run prog w=.ok (.enter 80 args) w:=enters_of func80 (by kernel_rfl) rfl
theorem b4i (ds:List Int) (v:Value) (w:World) (hn:ds.length<=4000000) (hv:RS 1 CI 0 w v ds) :
 Calls prog 79 #[v,.func (.func 80) #[] #[]] w fun e w'=>e=.returned (.int .i64 (a2l ds))/\w'=w:=by
 have eg:=b7U;obtain⟨a,cap,rfl,hcells⟩:=hv;go_enter func79,ntmps79;go_wp2;go_loopw [8] (fun i wr=>∃ k:Nat,k<=ds.length/\i=.int .i64 k/\Hid (∀ m (h:m<ds.length),m<k->decide (100<=ds[m])=false)/\wr=w) (fun i _=>ds.length-(intOf i).toNat)
 case atStart=>exact⟨0,Nat.zero_le _,rfl,(fun m h hm=>by omega:∀ m (h:m<ds.length),m<0->decide (100<=ds[m])=false),rfl⟩
 case round=>
 obtain⟨k,hk,rfl,HA,hw⟩:=hrel;obtain⟨w0,a0⟩:∃ x,x=wr:=⟨_,rfl⟩;subst a0;subst hw;by_cases hlt:k<ds.length
 .have hlti:(k:Int)<ds.length:=by omega
  obtain⟨g,o,rfl,_,hg,hgc⟩:=hcells (by omega);obtain⟨cs,hcs,hkk⟩:=hgc k hlt;unfold CI at hcs;subst hcs
  have c0:w0.cell? ⟨g,o+k,none⟩=some (.int .i64 ds[k]):=by simpa using hkk 0 (by omega)
  clear hkk;cases hb:decide (100<=ds[k])
  .have a1:Hid (∀ m (h:m<ds.length),m<k+1->decide (100<=ds[m])=false):=hid (fun m h hm=>by
    by_cases e:m=k
    .subst e;exact hb
    exact HA.out m h (by omega))
   have hc':=fun W=>b1l ds[k] W;rw[hb] at hc';clear HA hgc hcells;generalize ds[k]=x at *;go_wp2_with (go_at_fn 80;refine ws (hc' _) ?_);go_roundw
   case rel=>exact⟨k+1,by omega,by go_num,a1,by first | rfl | trivial⟩
   case measure=>simp[intOf];omega
  have HN:Hid (a2l ds=(k:Int)):=hid (by
    have ha:ds.any (fun x=>decide (100<=x))=true:=List.any_eq_true.2 ⟨ds[k],List.getElem_mem hlt,hb⟩
    unfold a2l
    rw[if_pos ha]
    congr 1
    rw[List.findIdx_eq hlt]
    exact⟨hb,fun j hj=>HA.out j (by omega) hj⟩)
  have hc':=fun W=>b1l ds[k] W;rw[hb] at hc';clear HA hgc hcells;generalize ds[k]=x at *;go_wp2_with (go_at_fn 80;refine ws (hc' _) ?_);go_ret;exact⟨by rw[HN.out];rfl,rfl⟩
 have hlti:¬ (k:Int)<ds.length:=by omega
 have HN:Hid (a2l ds=-1):=hid (by
   have ha:ds.any (fun x=>decide (100<=x))=false:=by
     rw[List.any_eq_false]
     intro x hx
     obtain⟨m,hm,rfl⟩:=List.getElem_of_mem hx
     have:=HA.out m hm (by omega)
     simpa using this
   unfold a2l
   rw[ha];rfl)
 clear HA;go_wp2;go_ret;exact⟨by rw[HN.out];rfl,rfl⟩
theorem b4j (ts:List Nd) (nv:Value) (w:World) (hL:ts.length<=4000000) (hK:∀ i (h:i<ts.length),ts[i].kids.length<=4000000/\∀ x∈ts[i].kids,∃ j:Nat,x=(j:Int)/\j<i) (hN:RS 10 CN 0 w nv ts) :
 Calls prog 35 #[nv] w fun e w'=>e=.returned (.int .i64 (a2l (a1A ts)))/\Below w.heap.size w w':=by
 obtain⟨i0,hi,a3,a4,a5⟩:=info_parts b1K;obtain⟨a,cap,rfl,hcells⟩:=hN;go_enter func35,ntmps35;go_wp2_with (refine wpList_make_full _ rfl (.tmp 8) (.tmp 8) 37 rfl w.heap.size 3 i0 _ 1 underlying37 hi a3 a4 .i64 .i64 ts.length ts.length ts.length rfl rfl rfl rfl (by rw[a5];omega) (by unfold maxLen;omega) (Nat.le_refl _) ?_;intro w1 hown hgrow);have HB:Hid (Below w.heap.size w w1):=(Below.refl _ _).grown hgrow (Nat.le_refl _) (fun k hk=>by simp at hk);have hb:=HB.out;have b0:=hb.size
 have hwr:IntKind.i64.wrap ((ts.length:Int)-1)=(ts.length:Int)-1:=by simp only[IntKind.wrap_i64,wrap64];omega
 go_wp2;go_loopw [4] (fun iv wr=>∃ (n:Nat) (ds:List Int),n<=ts.length/\iv=.int .i64 ((n:Int)-1)/\ds.length=ts.length/\Hid (∀ x∈ds,0<=x/\x+n<=ts.length)/\Hid (dRun ts n ds=a1A ts)/\wr.ownsRow w.heap.size 3 1 (.slice (some ⟨w.heap.size,0,none⟩) ts.length ts.length) ts.length (ds.map (Value.int .i64))/\Below w.heap.size w wr) (fun iv _=>((intOf iv)+1).toNat)
 case atStart=>
  refine⟨ts.length,List.replicate ts.length 0,Nat.le_refl _,rfl,by simp,(fun x hx=>by rw[List.mem_replicate] at hx;omega:∀ x∈List.replicate ts.length (0:Int),0<=x/\x+(ts.length:Int)<=ts.length),rfl,?_,hb⟩;have h0:(Value.int IntKind.i64 0).cells=#[Value.int IntKind.i64 0]:=rfl;simpa[madeCells,h0,Nat.mod_one,List.map_const'] using hown
 case round=>
 obtain⟨n,ds,hn,rfl,hdl,HX,HD,ho,hbel⟩:=hrel;obtain⟨w0,a6⟩:∃ x,x=wr:=⟨_,rfl⟩;subst a6;have hbs:=hbel.size
 cases n with
 | zero=>
  have HE:Hid (ds=a1A ts):=HD.out;have hR:RS 1 CI 0 w0 (.slice (some ⟨w.heap.size,0,none⟩) ts.length ts.length) ds:=b6D hdl ho;have hcn:=fun W (h:W=w0)=>b4i ds (.slice (some ⟨w.heap.size,0,none⟩) ts.length ts.length) W (by omega) (h ▸ hR);rw[HE.out] at hcn;go_wp2_with (go_at_call 79;refine(hcn _ rfl).mono ?_;rintro e w5 ⟨rfl,rfl⟩);go_ret;exact⟨rfl,hbel⟩
 | succ i=>
 rw[show((i+1:Nat):Int)-1=(i:Int) by omega]
 have a0:i<ts.length:=by omega
 have hii:(i:Int)<ts.length:=by omega
 have hwi:IntKind.i64.wrap ((i:Int)-1)=(i:Int)-1:=by simp only[IntKind.wrap_i64,wrap64];omega
 obtain⟨g,o,rfl,_,hg,hgc⟩:=hcells (by omega);obtain⟨cs,⟨kv,hcs,hKR⟩,hNA⟩:=hgc i a0;subst hcs;have c8:w0.cell? ⟨g,o+i*10+8,none⟩=some kv:=(hbel.cell (p:=⟨g,o+i*10+8,none⟩) hg).trans (hNA 8 (by omega));obtain⟨ka,kc,rfl,hkc⟩:=hKR;obtain⟨hkl,hkj⟩:=hK i a0;obtain⟨d,hd⟩:∃ d,ds[i]?=some d:=⟨_,List.getElem?_eq_getElem (by omega)⟩;have hdb:=HX.out d (List.mem_of_getElem? hd)
 have a1:Hid (dRun ts i (a3e ds d ts[i].kids)=a1A ts):=hid (by
   have:=HD.out
   unfold dRun at this
   rw[List.getElem?_eq_getElem a0,Option.map_some,Option.getD_some,List.getD_eq_getElem?_getD,hd,Option.getD_some] at this
   exact this)
 have a7:=HX.out;clear HD hgc hNA HX;generalize ts[i].kids=ks at *;go_wp2;go_loopw [23] (fun mv wx=>∃ (m:Nat) (es:List Int),m<=ks.length/\mv=.int .i64 m/\es.length=ts.length/\es[i]?=some d/\Hid (∀ x∈es,0<=x/\x+i<=ts.length)/\Hid (a3e es d (ks.drop m)=a3e ds d ks)/\wx.ownsRow w.heap.size 3 1 (.slice (some ⟨w.heap.size,0,none⟩) ts.length ts.length) ts.length (es.map (Value.int .i64))/\Below w.heap.size w wx) (fun mv _=>ks.length-(intOf mv).toNat)
 case atStart=>exact⟨0,ds,Nat.zero_le _,rfl,hdl,hd,(fun x hx=>by have:=a7 x hx;omega:∀ x∈ds,0<=x/\x+(i:Int)<=ts.length),(by simp:a3e ds d (ks.drop 0)=a3e ds d ks),ho,hbel⟩
 case round=>
 obtain⟨m,es,hm,rfl,hel,hed,HEX,HED,hoe,hbe⟩:=hrel;have hbes:=hbe.size;by_cases hlt:m<ks.length
 .have hlti:(m:Int)<ks.length:=by omega
  obtain⟨kg,ko,rfl,_,hkg,hkcc⟩:=hkc (by omega);obtain⟨cs,hcs,hkk⟩:=hkcc m hlt;unfold CI at hcs;subst hcs;have k0:=(hbe.cell (p:=⟨kg,ko+m,none⟩) hkg).trans (by simpa using hkk 0 (by omega));clear hkk;obtain⟨j,hj,hji⟩:=hkj _ (List.getElem_mem hlt);rw[hj] at k0
  have hjt:(j:Int)<ts.length:=by omega
  have e0:=a1M hoe (j:=i) (u:=.int .i64 d) (by rw[List.getElem?_map,hed];rfl);obtain⟨y0,a2⟩:∃ u,es[j]?=some u:=⟨_,List.getElem?_eq_getElem (by omega)⟩;have e1:=a1M hoe (j:=j) (u:=.int .i64 y0) (by rw[List.getElem?_map,a2];rfl);have f1:=hoe.frozenAt j
  have hwd:IntKind.i64.wrap (d+1)=d+1:=by simp only[IntKind.wrap_i64,wrap64];omega
  have a8:Hid (World.ownsRow (wr.setCell ⟨w.heap.size,j,none⟩ (.int .i64 (d+1))) w.heap.size 3 1 (.slice (some ⟨w.heap.size,0,none⟩) ts.length ts.length) ts.length ((es.set j (d+1)).map (Value.int .i64))):=hid (by
    have:=(hoe.stored j (.int .i64 (d+1))).1
    rw[List.map_set];exact this)
  have HS:Hid (a3e (es.set j (d+1)) d (ks.drop (m+1))=a3e ds d ks):=hid (by
    have:=HED.out
    rw[List.drop_eq_getElem_cons hlt,hj] at this
    exact this)
  have a9:Hid (∀ x∈es.set j (d+1),0<=x/\x+(i:Int)<=ts.length):=hid (fun x hx=>by
   rcases List.mem_or_eq_of_mem_set hx with h | h
   .exact HEX.out x h
   subst h;omega)
  have hei:(es.set j (d+1))[i]?=some d:=by rw[List.getElem?_set_ne (by omega)];exact hed
  have hesl:(es.set j (d+1)).length=ts.length:=by rw[List.length_set];exact hel
  clear hkcc HED HEX a2 hj hed hel hdl hd;go_wp2;go_roundw
  case rel=>exact⟨m+1,es.set j (d+1),by omega,by go_num,hesl,hei,a9,HS,a8.out,hbe.setCell (Nat.le_refl _) _⟩
  case measure=>simp[intOf];omega
 have hmn:m=ks.length:=by omega
 subst hmn
 have hlti:¬ (ks.length:Int)<ks.length:=by omega
 have HE:Hid (dRun ts i es=a1A ts):=hid (by
   have:=HED.out
   rw[List.drop_length] at this
   rw[show es=a3e ds d ks from this];exact a1.out)
 clear HED a1 hdl hd hed;go_wp2;go_roundw
 case rel=>exact⟨i,es,by omega,rfl,hel,HEX,HE,hoe,hbe⟩
 case measure=>simp[intOf]
end Go.Proofs.YtphmpkpcamgjeaaGreatDoor
