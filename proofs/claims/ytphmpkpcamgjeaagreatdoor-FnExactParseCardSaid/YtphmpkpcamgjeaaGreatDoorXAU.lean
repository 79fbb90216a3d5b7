import Derived.Test.YtphmpkpcamgjeaaGreatDoorXAA
import Derived.Test.YtphmpkpcamgjeaaGreatDoorXAT
set_option linter.unusedVariables false
set_option linter.unusedSimpArgs false
set_option maxRecDepth 100000
set_option maxHeartbeats 16000000
namespace Go.Proofs.YtphmpkpcamgjeaaGreatDoor
open Go.ChangeShapes Go.WideShapes Go.ChangeAt Go.RowKit Go.Proofs.Tryz
open Go.Maps
theorem add_any {V:Env} {Mx:DataW Unit} {r B:Nat} {D:Nat->Prop} {w:World} {p:Nat} {o:List Nd} (h:IM V Mx r B D w p o) (hm:o.length<=5000000) (t:Nd) (kv:Value) (hk:KS w kv t.kids) (hkl:t.kids.length<=100000) :
 Calls prog 74 #[.pointer (some ⟨r,0,none⟩),.agg #[.int .i64 t.op,.string t.name,.string t.qual,.int .i64 t.n,.int .i64 t.m,.int .i64 t.vk,.int .i64 t.vn,.string t.vs,(.slice none 0 0),.int .i64 t.pos],kv] w fun e w'=>e=.returned (.int .i64 (o.length:Int))/\IM V Mx r B D w' p (o++[t])/\Sp 4 r w w':=by
 obtain⟨i0,hi,b3,b4,b5⟩:=info_parts b8A
 obtain⟨ka,kc,rfl⟩:∃ a c,kv=.slice a t.kids.length c:=by
  obtain⟨⟨a,c,e,_⟩,_⟩:=hk;exact⟨a,c,e⟩
 have b0:KS (w.alloc (.cells #[.int .i64 t.op,.string t.name,.string t.qual,.int .i64 t.n,.int .i64 t.m,.int .i64 t.vk,.int .i64 t.vn,.string t.vs,(.slice none 0 0),.int .i64 t.pos] 42)) (.slice ka t.kids.length kc) t.kids:=hk.keep (by simp) (fun g hg=>(below_alloc w _).block g (a0x hg));obtain⟨na,nc,W2,a7,a2,a5⟩:=a8v b0 hkl
 have hsz:(w.alloc (.cells #[.int .i64 t.op,.string t.name,.string t.qual,.int .i64 t.n,.int .i64 t.m,.int .i64 t.vk,.int .i64 t.vn,.string t.vs,(.slice none 0 0),.int .i64 t.pos] 42)).heap.size=w.heap.size+1:=by simp
 rw[hsz] at a2 a5;have a6:W2.heap[w.heap.size]?=some (.cells #[.int .i64 t.op,.string t.name,.string t.qual,.int .i64 t.n,.int .i64 t.m,.int .i64 t.vk,.int .i64 t.vn,.string t.vs,(.slice none 0 0),.int .i64 t.pos] 42 (0,0)):=(a5.block w.heap.size (by omega)).trans (heap_alloc_new _ _);have b1:Below w.heap.size w W2:=(below_alloc w (.cells #[.int .i64 t.op,.string t.name,.string t.qual,.int .i64 t.n,.int .i64 t.m,.int .i64 t.vk,.int .i64 t.vn,.string t.vs,(.slice none 0 0),.int .i64 t.pos] 42)).trans (a5.mono (by omega));have a4:Below w.heap.size w (W2.setCell ⟨w.heap.size,8,none⟩ (.slice na t.kids.length nc)):=b1.setCell (p:=⟨w.heap.size,8,none⟩) (Nat.le_refl _) _;have b6:W2.cell? ⟨w.heap.size,8,none⟩=some (.slice none 0 0):=(cell_of a6).1;have b7:W2.frozen? ⟨w.heap.size,8,none⟩=false:=(cell_of a6).2
 have a1:(W2.setCell ⟨w.heap.size,8,none⟩ (.slice na t.kids.length nc)).heap[w.heap.size]?=some (.cells #[.int .i64 t.op,.string t.name,.string t.qual,.int .i64 t.n,.int .i64 t.m,.int .i64 t.vk,.int .i64 t.vn,.string t.vs,(.slice na t.kids.length nc),.int .i64 t.pos] 42 (0,0)):=by
  rw[heap_setCell_same W2 w.heap.size 8 _ _ _ a6];rfl
 have a3:(W2.setCell ⟨w.heap.size,8,none⟩ (.slice na t.kids.length nc)).ownsRow (w.heap.size+1) 3 1 (.slice na t.kids.length nc) t.kids.length (kidC t.kids):=a0L a2 (fun g hg=>heap_setCell_other W2 _ g _ (fun e=>by have:=a2Y a2 hg;have e2:g=w.heap.size:=e;omega))
 have b2:Out D (.slice na t.kids.length nc):=fun g hg hd=>by
  have:=a2Y a3 hg;have:=h.dl g hd;omega
 have h3:IM V Mx r B (fun g=>D g\/(Value.slice na t.kids.length nc).ownBlock=some g) (W2.setCell ⟨w.heap.size,8,none⟩ (.slice na t.kids.length nc)) p o:=h.belowD (fun g hg=>by
  rcases hg with z | z
  .exact Nat.lt_of_lt_of_le (h.dl g z) a4.size
  .exact(a3.lt g z).2) (fun g hl hg=>by
  rcases hg with z | z
  .exact z
  have:=a2Y a3 z;omega) a4
 have a9:=a3x a3 (show B<=w.heap.size+1 by have:=h.hb;omega);clear a3;have z3:=h.spB a4;have hgl:w.heap.size<(W2.setCell ⟨w.heap.size,8,none⟩ (.slice na t.kids.length nc)).heap.size:=(Array.getElem?_eq_some_iff.1 a1).1
 have hgr:w.heap.size≠r:=fun e=>by have:=h.rl;omega
 have HO:Hid (ob 4 r (W2.setCell ⟨w.heap.size,8,none⟩ (.slice na t.kids.length nc))≠some w.heap.size):=fun e=>by
  rw[a3w (a4.block r h.rl)] at e;have:=a0x (h.obt e);omega
 go_enter func74,ntmps74;go_wp2_with (at_builtin;refine Lib.wpList_append_run _ rfl (.tmp 8) (.tmp 9) 37 37 rfl _ _ rfl rfl _ _ a7 ?_);clear a7 a2 a5 a6 b1 b6 b7 a4 b0 hsz;generalize W2.setCell ⟨w.heap.size,8,none⟩ (.slice na t.kids.length nc)=W at *;generalize w.heap.size=g at *;clear hk;obtain⟨tv,mb,ov,xs,ks,h1,h2,h5,h4,h6⟩:=h3.ex;have hrl:=h3.rl;obtain⟨oa,oc,rfl⟩:=a2c h4;have HG:Hid ((Value.slice oa o.length oc).ownBlock≠some g):=fun e=>HO.out (by unfold ob;rw[(cell_of h1 (j:=4)).1];exact e);have c3:=(cell_of h1 (j:=4)).1;have f3:=(cell_of h1 (j:=4)).2;simp only[List.getElem?_toArray,List.getElem?_cons_succ,List.getElem?_cons_zero] at c3;have d0:W.cell? ⟨g,0,none⟩=some (.int .i64 t.op):=(cell_of a1).1;have d1:W.cell? ⟨g,1,none⟩=some (.string t.name):=(cell_of a1).1
 have d2:W.cell? ⟨g,2,none⟩=some (.string t.qual):=(cell_of a1).1;have d3:W.cell? ⟨g,3,none⟩=some (.int .i64 t.n):=(cell_of a1).1;have d4:W.cell? ⟨g,4,none⟩=some (.int .i64 t.m):=(cell_of a1).1;have d5:W.cell? ⟨g,5,none⟩=some (.int .i64 t.vk):=(cell_of a1).1;have d6:W.cell? ⟨g,6,none⟩=some (.int .i64 t.vn):=(cell_of a1).1;have d7:W.cell? ⟨g,7,none⟩=some (.string t.vs):=(cell_of a1).1;have d8:W.cell? ⟨g,8,none⟩=some ((.slice na t.kids.length nc)):=(cell_of a1).1;have d9:W.cell? ⟨g,9,none⟩=some (.int .i64 t.pos):=(cell_of a1).1
 have HP:=fun w3 ov' a b c d=>hid (h3.push (D:=D) (fun g hg=>.inl hg) (w1:=W.drew.alloc (.cells #[.int .i64 t.op,.string t.name,.string t.qual,.int .i64 t.n,.int .i64 t.m,.int .i64 t.vk,.int .i64 t.vn,.string t.vs,(.slice na t.kids.length nc),.int .i64 t.pos] 42)) (w3:=w3) (ov':=ov') (t:=t) h1 h2 h4 h5 h6 a9 b2 (fun g hg=>.inr hg) a b c d);have a0:Hid (Below W.heap.size W (W.drew.alloc (.cells #[.int .i64 t.op,.string t.name,.string t.qual,.int .i64 t.n,.int .i64 t.m,.int .i64 t.vk,.int .i64 t.vn,.string t.vs,(.slice na t.kids.length nc),.int .i64 t.pos] 42))):=((Below.refl _ W).drew).alloc (by simp) _
 have hnew:∀ j u,(ndC t (.slice na t.kids.length nc))[j]?=some u->(W.drew.alloc (.cells #[.int .i64 t.op,.string t.name,.string t.qual,.int .i64 t.n,.int .i64 t.m,.int .i64 t.vk,.int .i64 t.vn,.string t.vs,(.slice na t.kids.length nc),.int .i64 t.pos] 42)).cell? ((⟨W.heap.size,0,none⟩:Addr).add j)=some u:=fun j u hj=>by
  rw[Addr.add_lit,World.cell?_alloc_at _ _ _ _ (by simp)];simpa[ndC] using hj
 obtain⟨v',W3,hrun,hown,hgrow,_,hat⟩:=run_append_own_at (P:=prog) (W.drew.alloc (.cells #[.int .i64 t.op,.string t.name,.string t.qual,.int .i64 t.n,.int .i64 t.m,.int .i64 t.vk,.int .i64 t.vn,.string t.vs,(.slice na t.kids.length nc),.int .i64 t.pos] 42)) B 22 22 42 i0 _ 10 120 underlying22 hi b3 b4 b5 rfl (by omega) (.slice oa o.length oc) o.length xs (own_below h4 a0.out) ⟨W.heap.size,0,none⟩ 1 1 (ndC t (.slice na t.kids.length nc)) rfl hnew (by simp[ndC,Value.oneCell']) (by unfold maxLen;omega) (by omega) (by have:=a0.out.size;have:=h3.hb;omega);obtain⟨va,vc,rfl⟩:=a2c hown;have HPP:=HP W3 _ a0.out hgrow hown hat;have HZ:=hid (z3.trans HPP.out.2);have a8:W3.heap[r]?=W.heap[r]?:=(hgrow.block r (by have:=a0.out.size;omega) (fun e=>a0t (a0n h4 e.symm) h3.rt (by decide) rfl)).trans (a0.out.block r hrl)
 have b8:W3.cell? ⟨r,4,none⟩=some (.slice oa o.length oc):=(World.cell?_of_block (a:=⟨r,4,none⟩) a8).trans c3;have c1:W3.frozen? ⟨r,4,none⟩=false:=(World.frozen?_of_block (a:=⟨r,4,none⟩) a8).trans f3;have hbx:∀ j,W3.cell? ⟨g,j,none⟩=W.cell? ⟨g,j,none⟩:=fun j=>(World.cell?_of_block (a:=⟨g,j,none⟩) (hgrow.block g (by have:=a0.out.size;omega) (fun e=>HG.out e.symm))).trans (a0.out.cell (p:=⟨g,j,none⟩) hgl)
 have HC:=hid (show W3.cell? ⟨g,0,none⟩=some (.int .i64 t.op)/\W3.cell? ⟨g,1,none⟩=some (.string t.name)/\W3.cell? ⟨g,2,none⟩=some (.string t.qual)/\W3.cell? ⟨g,3,none⟩=some (.int .i64 t.n)/\W3.cell? ⟨g,4,none⟩=some (.int .i64 t.m)/\W3.cell? ⟨g,5,none⟩=some (.int .i64 t.vk)/\W3.cell? ⟨g,6,none⟩=some (.int .i64 t.vn)/\W3.cell? ⟨g,7,none⟩=some (.string t.vs)/\W3.cell? ⟨g,8,none⟩=some ((.slice na t.kids.length nc))/\W3.cell? ⟨g,9,none⟩=some (.int .i64 t.pos) from⟨(hbx 0).trans d0,(hbx 1).trans d1,(hbx 2).trans d2,(hbx 3).trans d3,(hbx 4).trans d4,(hbx 5).trans d5,(hbx 6).trans d6,(hbx 7).trans d7,(hbx 8).trans d8,(hbx 9).trans d9⟩)
 have b9:=hid (show(W.drew.alloc (.cells #[.int .i64 t.op,.string t.name,.string t.qual,.int .i64 t.n,.int .i64 t.m,.int .i64 t.vk,.int .i64 t.vn,.string t.vs,(.slice na t.kids.length nc),.int .i64 t.pos] 42)).cell? ⟨g,0,none⟩=some (.int .i64 t.op)/\(W.drew.alloc (.cells #[.int .i64 t.op,.string t.name,.string t.qual,.int .i64 t.n,.int .i64 t.m,.int .i64 t.vk,.int .i64 t.vn,.string t.vs,(.slice na t.kids.length nc),.int .i64 t.pos] 42)).cell? ⟨g,1,none⟩=some (.string t.name)/\(W.drew.alloc (.cells #[.int .i64 t.op,.string t.name,.string t.qual,.int .i64 t.n,.int .i64 t.m,.int .i64 t.vk,.int .i64 t.vn,.string t.vs,(.slice na t.kids.length nc),.int .i64 t.pos] 42)).cell? ⟨g,2,none⟩=some (.string t.qual)/\(W.drew.alloc (.cells #[.int .i64 t.op,.string t.name,.string t.qual,.int .i64 t.n,.int .i64 t.m,.int .i64 t.vk,.int .i64 t.vn,.string t.vs,(.slice na t.kids.length nc),.int .i64 t.pos] 42)).cell? ⟨g,3,none⟩=some (.int .i64 t.n)/\(W.drew.alloc (.cells #[.int .i64 t.op,.string t.name,.string t.qual,.int .i64 t.n,.int .i64 t.m,.int .i64 t.vk,.int .i64 t.vn,.string t.vs,(.slice na t.kids.length nc),.int .i64 t.pos] 42)).cell? ⟨g,4,none⟩=some (.int .i64 t.m)/\(W.drew.alloc (.cells #[.int .i64 t.op,.string t.name,.string t.qual,.int .i64 t.n,.int .i64 t.m,.int .i64 t.vk,.int .i64 t.vn,.string t.vs,(.slice na t.kids.length nc),.int .i64 t.pos] 42)).cell? ⟨g,5,none⟩=some (.int .i64 t.vk)/\(W.drew.alloc (.cells #[.int .i64 t.op,.string t.name,.string t.qual,.int .i64 t.n,.int .i64 t.m,.int .i64 t.vk,.int .i64 t.vn,.string t.vs,(.slice na t.kids.length nc),.int .i64 t.pos] 42)).cell? ⟨g,6,none⟩=some (.int .i64 t.vn)/\(W.drew.alloc (.cells #[.int .i64 t.op,.string t.name,.string t.qual,.int .i64 t.n,.int .i64 t.m,.int .i64 t.vk,.int .i64 t.vn,.string t.vs,(.slice na t.kids.length nc),.int .i64 t.pos] 42)).cell? ⟨g,7,none⟩=some (.string t.vs)/\(W.drew.alloc (.cells #[.int .i64 t.op,.string t.name,.string t.qual,.int .i64 t.n,.int .i64 t.m,.int .i64 t.vk,.int .i64 t.vn,.string t.vs,(.slice na t.kids.length nc),.int .i64 t.pos] 42)).cell? ⟨g,8,none⟩=some ((.slice na t.kids.length nc))/\(W.drew.alloc (.cells #[.int .i64 t.op,.string t.name,.string t.qual,.int .i64 t.n,.int .i64 t.m,.int .i64 t.vk,.int .i64 t.vn,.string t.vs,(.slice na t.kids.length nc),.int .i64 t.pos] 42)).cell? ⟨g,9,none⟩=some (.int .i64 t.pos) from⟨(a0.out.cell (p:=⟨g,0,none⟩) hgl).trans d0,(a0.out.cell (p:=⟨g,1,none⟩) hgl).trans d1,(a0.out.cell (p:=⟨g,2,none⟩) hgl).trans d2,(a0.out.cell (p:=⟨g,3,none⟩) hgl).trans d3,(a0.out.cell (p:=⟨g,4,none⟩) hgl).trans d4,(a0.out.cell (p:=⟨g,5,none⟩) hgl).trans d5,(a0.out.cell (p:=⟨g,6,none⟩) hgl).trans d6,(a0.out.cell (p:=⟨g,7,none⟩) hgl).trans d7,(a0.out.cell (p:=⟨g,8,none⟩) hgl).trans d8,(a0.out.cell (p:=⟨g,9,none⟩) hgl).trans d9⟩)
 have c0:=hid ((a0.out.cell (p:=⟨r,4,none⟩) hrl).trans c3)
 have hmw:((o.length:Int)+1)-1=o.length:=by omega
 have hml:(o.length:Int)<=5000000:=by omega
 clear hown hgrow hat HP hnew h1 h2 h5 h4 h6 a8 a9 b2 hbx;refine a0a (S:=(fun W=>W.cell? ⟨r,4,none⟩=some (.slice oa o.length oc)/\W.cell? ⟨g,0,none⟩=some (.int .i64 t.op)/\W.cell? ⟨g,1,none⟩=some (.string t.name)/\W.cell? ⟨g,2,none⟩=some (.string t.qual)/\W.cell? ⟨g,3,none⟩=some (.int .i64 t.n)/\W.cell? ⟨g,4,none⟩=some (.int .i64 t.m)/\W.cell? ⟨g,5,none⟩=some (.int .i64 t.vk)/\W.cell? ⟨g,6,none⟩=some (.int .i64 t.vn)/\W.cell? ⟨g,7,none⟩=some (.string t.vs)/\W.cell? ⟨g,8,none⟩=some ((.slice na t.kids.length nc))/\W.cell? ⟨g,9,none⟩=some (.int .i64 t.pos))) (late:=[8,9,10]) (by kernel_rfl) (by first | exact⟨c3,d0,d1,d2,d3,d4,d5,d6,d7,d8,d9⟩ | go_keep) (fun hHeld=>?_);refine tT 0 rfl hHeld ?_
 try simp only[Act.put,q1,q2,q3]
 refine tT 1 rfl hHeld ?_
 try simp only[Act.put,q1,q2,q3]
 refine tT 2 rfl hHeld ?_
 try simp only[Act.put,q1,q2,q3]
 refine tT 3 rfl hHeld ?_
 try simp only[Act.put,q1,q2,q3]
 refine tL 4 rfl hHeld ?_
 try simp only[Act.put,q1,q2,q3]
 refine tL 5 rfl hHeld ?_
 try simp only[Act.put,q1,q2,q3]
 refine rE 6 rfl fun K hK=>?_;go_simp;refine hK _ _ ⟨⟨c0.out,b9.out⟩,?_⟩;clear hK K
 try simp only[Act.put,q1,q2,q3]
 refine rE 7 rfl fun K hK=>?_;refine a0e rfl (.tmp 16) (.tmp 18) 22 rfl _ _ rfl rfl _ _ hrun ?_;refine hK _ _ ⟨⟨b8,HC.out⟩,?_⟩;clear hK K
 try simp only[Act.put,q1,q2,q3]
 clear hrun;refine rL 8 rfl fun K hK=>?_;go_simp;refine hK _ _ ?_;clear hK K
 try simp only[Act.put,q1,q2,q3]
 refine rL 9 rfl fun K hK=>?_;go_simp;refine hK _ _ ?_;clear hK K
 try simp only[Act.put,q1,q2,q3]
 refine rL 10 rfl fun K hK=>?_;go_simp;refine hK _ _ ?_;clear hK K
 try simp only[Act.put,q1,q2,q3]
 refine a0h (by kernel_rfl) ?_ _;go_wp2;go_ret;exact⟨rfl,HPP.out.1,HZ.out⟩
end Go.Proofs.YtphmpkpcamgjeaaGreatDoor
namespace Go.Proofs.YtphmpkpcamgjeaaGreatDoor
open Go.ChangeShapes Go.WideShapes Go.ChangeAt Go.RowKit Go.Proofs.Tryz
open Go.Maps
structure PI (V:Env) (Mx:DataW Unit) (r B:Nat) (D:Nat->Prop) (b:Nat) (w:World) (p:Nat) (o:List Nd) (v:Value) (ks:List Int):Prop where
  sm:IM V Mx r B (fun g=>D g\/v.ownBlock=some g) w p o
  row:w.ownsRow b 3 1 v ks.length (kidC ks)
  bl:b<=w.heap.size
section
variable {V : Env} {Mx : DataW Unit} {r B : Nat} {D : Nat -> Prop} {b : Nat} {w : World} {p : Nat} {o : List Nd} {v : Value} {ks : List Int}
theorem PI.step (h:PI V Mx r B D b w p o v ks) {w':World} {q:Nat} {y:List Nd} (s:IM V Mx r B (fun g=>D g\/v.ownBlock=some g) w' q y) (f:Sp 4 r w w'):PI V Mx r B D b w' q y v ks:=
  ⟨s,a0L h.row (fun g hg=>(h.sm.nb (a0n h.row hg) (by decide) (by decide)).heap f),Nat.le_trans h.bl f.size⟩
theorem PI.below (h:PI V Mx r B D b w p o v ks) {w':World} (hb:Below w.heap.size w w'):PI V Mx r B D b w' p o v ks:=h.step (h.sm.below hb) (h.sm.sp.below hb)
theorem PI.nil (h:IM V Mx r B D w p o) (hb:b<=w.heap.size):PI V Mx r B D b w p o (.slice none 0 0) []:=
  ⟨h.sub (fun g hg=>by rcases hg with z | z;exact z;cases z),World.ownsRow_nil _ _ _ _,hb⟩
theorem PI.out (h:PI V Mx r B D b w p o v ks):IM V Mx r B D w p o:=h.sm.sub (fun g hg=>.inl hg)
theorem PI.kids (h:PI V Mx r B D b w p o v ks):KS w v ks:=KS.own h.row
theorem PI.lit (h:IM V Mx r B D w p o) (hb:b<=w.heap.size) (ks:List Int) (hl:0<ks.length) (hl2:ks.length<=1000):PI V Mx r B D b (w.alloc (.cells (kidC ks).toArray 3)) p o (.slice (some ⟨w.heap.size,0,none⟩) ks.length ks.length) ks:=by
 refine⟨h.belowD (fun g hg=>?_) (fun g h1 hg=>?_) (below_alloc _ _),⟨by simp[kidC],.inr ⟨w.heap.size,ks.length,(kidC ks).toArray,rfl,hb,heap_alloc_new _ _,Nat.le_refl _,by unfold maxLen;omega,by simp[kidC],by simp[kidC];exact List.take_of_length_le (by simp)⟩⟩,by simp;omega⟩
 .rcases hg with z | z
  .have:=h.dl g z;simp;omega
  have:w.heap.size=g:=by simpa[Value.ownBlock] using z
  simp;omega
 rcases hg with z | z
 .exact z
 have:w.heap.size=g:=by simpa[Value.ownBlock] using z
 omega
theorem PI.loose (h:PI V Mx r B D b w p o v ks) {b':Nat} (hb:b'<=b):PI V Mx r B D b' w p o v ks:=⟨h.sm,a3x h.row hb,by have:=h.bl;omega⟩
theorem b0K (pk:PI V Mx r B D b w p o v ks) (k:Int) (hl:ks.length<=100000) :
 ∃ v' w',(Builtin.append_ #[37,37] 37 #[v,.slice (some ⟨w.heap.size,0,none⟩) 1 1]).run prog (w.alloc (.cells #[.int .i64 k] 3))=.ok v' w'/\PI V Mx r B D b w' p o v' (ks++[k])/\(∀ w0,Sp 4 r w0 w->w0.heap.size<=b->Sp 4 r w0 w')/\(w.alloc (.cells #[.int .i64 k] 3)).grownBy w' v.ownBlock/\(v'.ownBlock=v.ownBlock\/v'.ownBlock=some (w.heap.size+1)):=by
 obtain⟨i0,hi,a1,a2,a3⟩:=info_parts b1K;have a0:=below_alloc w (.cells #[.int .i64 k] 3)
 obtain⟨v',w',hrun,hown,hgrow,_,hat⟩:=run_append_own_at (P:=prog) (w.alloc (.cells #[.int .i64 k] 3)) b 37 37 3 i0 _ 1 8 underlying37 hi a1 a2 a3 rfl (by omega) v ks.length (kidC ks) (own_below pk.row a0) ⟨w.heap.size,0,none⟩ 1 1 [.int .i64 k] rfl (fun j u hj=>by
  rw[Addr.add_lit,World.cell?_alloc_at _ _ _ _ (by simp)]
  simpa using hj) (by simp[Value.oneCell']) (by unfold maxLen;omega) (by omega) (by have:=pk.bl;simp;omega)
 have hsz:=hgrow.size;simp at hsz;refine⟨v',w',hrun,⟨?_,?_,by have:=pk.bl;omega⟩,fun w0 s a4=>(s.alloc _).grow hgrow (fun g hg=>Nat.le_trans a4 (a2Y pk.row hg)),hgrow,by simpa using hat⟩
 .refine(pk.sm.alloc (.cells #[.int .i64 k] 3)).growD (fun g hg=>?_) (fun g a5 a6=>?_) hgrow (fun g hg=>⟨.inr hg,a4g (a0n pk.row hg) (a0.block g (a0x (a0n pk.row hg)))⟩)
  .rcases hg with z | z
   .have:=pk.sm.dl g (.inl z);omega
   exact a0x (a0n hown z)
  rcases a6 with z | z
  .exact .inl z
  rcases hat with z2 | z2
  .exact .inr (z2 ▸ z)
  rw[z] at z2
  have:g=w.heap.size+1:=by simpa using z2
  simp at a5;omega
 rw[show(ks++[k]).length=ks.length+1 by simp,show kidC (ks++[k])=kidC ks++[.int .i64 k] by simp[kidC]];exact hown
theorem a2d {ops:Array Oper} {rest:List Oper} {oo:Oper} {a:Act} {Q:Exit->Act->World->Prop} (hgd:oo.guard=none) (s z:Operand) (ho:oo.op=.call { callee:=.builtin .append,args:=#[s,z],argTypes:=#[37,37] }) (hty:oo.type=37) (pk:PI V Mx r B D b w p o v ks) (k:Int) (hs:a.eval s=v) (hz:a.eval z=.slice (some ⟨w.heap.size,0,none⟩) 1 1) (hl:ks.length<=100000)
 (h:∀ v' w',PI V Mx r B D b w' p o v' (ks++[k])->(∀ w0,Sp 4 r w0 w->w0.heap.size<=b->Sp 4 r w0 w')->wpList prog ops Q rest (a.put oo.dst v') w'):wpList prog ops Q (oo::rest) a (w.alloc (.cells #[.int .i64 k] 3)):=by
 obtain⟨v',w',hrun,h1,h2,_⟩:=b0K pk k hl
 have a0:(Builtin.append_ #[37,37] oo.type #[v,.slice (some ⟨w.heap.size,0,none⟩) 1 1]).run prog (w.alloc (.cells #[.int .i64 k] 3))=.ok v' w':=by rw[hty];exact hrun
 exact Lib.wpList_append_run _ hgd s z 37 37 ho v _ hs hz v' w' a0 (h v' w' h1 h2)
end
end Go.Proofs.YtphmpkpcamgjeaaGreatDoor
namespace Go.Proofs.YtphmpkpcamgjeaaGreatDoor
def Gro {α:Type} (c:Nat) (F:M α):Prop:=∀ p o a q o',F p o=.ok a q o'->p<q/\o'.length+c<=o.length+1000*(q-p)
def Gr0 {α:Type} (d:Nat) (F:M α):Prop:=∀ p o a q o',F p o=.ok a q o'->p<=q/\o'.length<=o.length+1000*(q-p)+d
theorem R.bind_iff {α β:Type} {x:R α} {f:α->Nat->List Nd->R β} {a:β} {q:Nat} {o':List Nd}:x.bind f=.ok a q o'↔∃ b s u,x=.ok b s u/\f b s u=.ok a q o':=by
 cases x with
 | bad p=>simp[R.bind]
 | ok b s u=>
 constructor
 .intro h;exact⟨b,s,u,rfl,h⟩
 rintro⟨b',s',u',h1,h2⟩;cases h1;exact h2
theorem a0o {α:Type} {c:Prop} [Decidable c] {x y z:R α}:(if c then x else y)=z↔(c/\x=z)\/(¬ c/\y=z):=by
 by_cases h:c<;>simp[h]
section
variable (V : Env)
theorem a0E {s:ByteArray} {p:Nat} {o:List Nd} {a:Unit} {q:Nat} {o':List Nd}:must V s p o=.ok a q o'↔sees V p s=true/\q=p+1/\o'=o:=by
 unfold must;by_cases h:sees V p s=true
 .simp[h];constructor
  .rintro⟨rfl,rfl⟩;exact⟨rfl,rfl⟩
  rintro⟨rfl,rfl⟩;exact⟨rfl,rfl⟩
 simp[h]
theorem a1R {p:Nat} {o:List Nd} {a:ByteArray} {q:Nat} {o':List Nd}:name V p o=.ok a q o'↔isNm V p=true/\a=V.tx p/\q=p+1/\o'=o:=by
 unfold name;by_cases h:isNm V p=true
 .simp[h];constructor
  .rintro⟨rfl,rfl,rfl⟩;exact⟨rfl,rfl,rfl⟩
  rintro⟨rfl,rfl,rfl⟩;exact⟨rfl,rfl,rfl⟩
 simp[h]
theorem a0y {t:Nd} {p:Nat} {o:List Nd} {a:Int} {q:Nat} {o':List Nd}:lay t p o=.ok a q o'↔a=o.length/\q=p/\o'=o++[t]:=by
 unfold lay;simp;constructor
 .rintro⟨rfl,rfl,rfl⟩;exact⟨rfl,rfl,rfl⟩
 rintro⟨rfl,rfl,rfl⟩;exact⟨rfl,rfl,rfl⟩
theorem a5z (b:Bool):stp b<=1:=by cases b<;>simp[stp]
variable {V} {E Q : M Int}
theorem a7u {f:M Int} {c:Nat} (hf:Gro c f) (hc:c<=1000):∀ k ks,Gro c (a1w V f k ks)
 | 0,ks=>fun p o a q o' h=>by simp[a1w] at h
 | k+1,ks=>fun p o a q o' h=>by
  have ih:=a7u hf hc k;simp only[a1w,R.bind_iff,a0o] at h;obtain⟨b,s,u,h1,h2⟩:=h;have e1:=hf _ _ _ _ _ h1;rcases h2 with⟨_,h2⟩ | ⟨_,h2⟩
  .have e2:=ih _ _ _ _ _ _ h2;omega
  simp at h2;obtain⟨rfl,rfl,rfl⟩:=h2;omega
theorem a0D {f:M Int} {c:Nat} (hf:Gro c f) (hc:c<=1000):Gro c (a0F V f):=a7u hf hc _ _
theorem a6f {f:M Int} {ops:List (ByteArray×Int)} {c:Nat} (hf:Gro c f) (hc:1<=c):∀ k l,Gr0 0 (a1i V f ops k l)
 | 0,l=>fun p o a q o' h=>by simp[a1i] at h
 | k+1,l=>fun p o a q o' h=>by
  have ih:=a6f (ops:=ops) hf hc k;unfold a1i at h;split at h
  .simp at h;obtain⟨rfl,rfl,rfl⟩:=h;omega
  simp only[R.bind_iff] at h;obtain⟨b,s,u,h1,h2⟩:=h;have e1:=hf _ _ _ _ _ h1;have e2:=ih _ _ _ _ _ _ h2;simp at e2;omega
theorem a3z {f:M Int} {ops:List (ByteArray×Int)} {c:Nat} (hf:Gro c f) (hc:1<=c):Gro c (chain V f ops):=fun p o a q o' h=>by
 unfold chain at h;simp only[R.bind_iff] at h;obtain⟨b,s,u,h1,h2⟩:=h;have e1:=hf _ _ _ _ _ h1;have e2:=a6f hf hc _ _ _ _ _ _ _ h2;omega
theorem a6D {s:ByteArray} {op:Int} {f:M Int} {c:Nat} (hf:Gro c f) (hc:c<=1000):∀ k,Gro c (pre V s op f k)
 | 0=>fun p o a q o' h=>by simp[pre] at h
 | k+1=>fun p o a q o' h=>by
  have ih:=a6D (s:=s) (op:=op) hf hc k;simp only[pre,a0o,R.bind_iff,a0y] at h;rcases h with⟨_,b,s,u,h1,rfl,rfl,rfl⟩ | ⟨_,h1⟩
  .have e1:=ih _ _ _ _ _ h1;simp
   try omega
  exact hf _ _ _ _ _ h1
theorem a2p {f:M Int} {c:Nat} (hf:Gro c f):Gro (c+2000) (inB V f):=fun p o a q o' h=>by
 unfold inB at h;simp only[R.bind_iff,a0E] at h;obtain⟨_,_,_,⟨_,rfl,rfl⟩,b,s,u,h1,_,_,_,⟨_,rfl,rfl⟩,h2⟩:=h;have e1:=hf _ _ _ _ _ h1;simp at h2;obtain⟨rfl,rfl,rfl⟩:=h2;omega
theorem a1d {f:M Int} {c:Nat} (hf:Gro c f) (hc:c<=1000):Gro (c+2000) (a1E V f):=fun p o a q o' h=>by
 unfold a1E at h;simp only[R.bind_iff,a0E] at h;obtain⟨_,_,_,⟨_,rfl,rfl⟩,b,s,u,h1,_,_,_,⟨_,rfl,rfl⟩,h2⟩:=h;have e1:=a0D hf hc _ _ _ _ _ h1;simp at h2;obtain⟨rfl,rfl,rfl⟩:=h2;omega
theorem a4l:Gro 1000 (a3s V):=fun p o a q o' h=>by
 unfold a3s at h
 split at h<;>simp at h
 obtain⟨rfl,rfl,rfl⟩:=h;omega
theorem a4C (hE:Gro 999 E):∀ k ks,Gro 1000 (a1X V E k ks)
 | 0,ks=>fun p o a q o' h=>by simp[a1X] at h
 | k+1,ks=>fun p o a q o' h=>by
  have ih:=a4C hE k;simp only[a1X,R.bind_iff,a0E,a0o] at h;obtain⟨_,_,_,⟨_,rfl,rfl⟩,b,s,u,h1,_,_,_,⟨_,rfl,rfl⟩,b2,s2,u2,h2,h3⟩:=h;have e1:=hE _ _ _ _ _ h1;have e2:=hE _ _ _ _ _ h2;rcases h3 with⟨_,h3⟩ | ⟨_,h3⟩
  .have e3:=ih _ _ _ _ _ _ h3;omega
  simp at h3;obtain⟨rfl,rfl,rfl⟩:=h3;omega
theorem a6g (hE:Gro 999 E) (m ps:Int) (ks:List Int):Gro 999 (a1Y V E m ps ks):=fun p o a q o' h=>by
 unfold a1Y at h;simp only[R.bind_iff,a0E,a0o,a0y] at h;rcases h with⟨_,b,s,u,h1,_,_,_,⟨_,rfl,rfl⟩,rfl,rfl,rfl⟩ | ⟨_,_,_,_,⟨_,rfl,rfl⟩,rfl,rfl,rfl⟩
 .have e1:=hE _ _ _ _ _ h1;simp
  try omega
 simp
 try omega
theorem a6h (hE:Gro 999 E) (ps:Int):Gro 999 (a3q V E ps):=fun p o a q o' h=>by
 unfold a3q at h;simp only[R.bind_iff,a0o] at h;rcases h with⟨_,b,s,u,h1,h2⟩ | ⟨_,b,s,u,h1,b2,s2,u2,h2,h3⟩
 .have e1:=a4C hE _ _ _ _ _ _ _ h1;have e2:=a6g hE _ _ _ _ _ _ _ _ h2;omega
 have e1:=hE _ _ _ _ _ h1;have e2:=a4C hE _ _ _ _ _ _ _ h2;have e3:=a6g hE _ _ _ _ _ _ _ _ h3;omega
theorem a7v (hE:Gro 999 E) (ps:Int):Gro 999 (a7p V E ps):=fun p o a q o' h=>by
 unfold a7p at h;simp only[R.bind_iff,a0E,a0y] at h;obtain⟨_,_,_,⟨_,rfl,rfl⟩,b,s,u,h1,_,_,_,⟨_,rfl,rfl⟩,b2,s2,u2,h2,_,_,_,⟨_,rfl,rfl⟩,rfl,rfl,rfl⟩:=h;have e1:=hE _ _ _ _ _ h1;have e2:=a4l _ _ _ _ _ h2;simp
 try omega
theorem b4Z (hE:Gro 999 E) (i:Nat) (ps:Int):Gro 999 (aggF V E i ps):=fun p o a q o' h=>by
 unfold aggF at h;simp only[R.bind_iff,a0E,a0o,a0y] at h;obtain⟨_,_,_,⟨_,rfl,rfl⟩,h⟩:=h;rcases h with⟨_,_,_,_,⟨_,rfl,rfl⟩,rfl,rfl,rfl⟩ | ⟨_,b,s,u,h1,_,_,_,⟨_,rfl,rfl⟩,rfl,rfl,rfl⟩
 .simp;omega
 have e1:=hE _ _ _ _ _ h1;simp
 try omega
theorem a6i (hE:Gro 999 E) (ps:Int):Gro 999 (a3M V E ps):=fun p o a q o' h=>by
 unfold a3M at h;simp only[R.bind_iff,a0E,a0o,a0y,a1R] at h;obtain⟨_,_,_,⟨_,rfl,rfl,rfl⟩,h⟩:=h;rcases h with⟨_,(⟨_,_,_,_,⟨_,rfl,rfl⟩,rfl,rfl,rfl⟩ | ⟨_,b,s,u,h1,_,_,_,⟨_,rfl,rfl⟩,rfl,rfl,rfl⟩)⟩ | ⟨_,(⟨_,_,_,_,⟨_,rfl,rfl,rfl⟩,rfl,rfl,rfl⟩ | ⟨_,rfl,rfl,rfl⟩)⟩
 .simp;try omega
 .have e1:=a0D hE (by omega) _ _ _ _ _ h1;simp;try omega
 .simp;try omega
 simp
theorem b1R (hE:Gro 999 E) (ps:Int):Gro 999 (a2B V E ps):=fun p o a q o' h=>by
 unfold a2B at h;split at h
 .have:=b4Z hE _ _ _ _ _ _ _ h;omega
 exact a6i hE _ _ _ _ _ _ h
theorem b5a (ps:Int):Gro 999 (dayF V ps):=fun p o a q o' h=>by
 unfold dayF dayE at h;split at h
 .split at h
  .simp only[lit,a0y] at h;obtain⟨rfl,rfl,rfl⟩:=h;simp
  simp at h
 simp at h
theorem a7w (hE:Gro 999 E) (hQ:Gro 900 Q):Gro 999 (a3K V E Q):=fun p o a q o' h=>by
 unfold a3K at h;simp only[a0o,R.bind_iff,a0y,lit] at h;rcases h with⟨_,rfl,rfl,rfl⟩ | ⟨_,h⟩
 .simp
 rcases h with⟨_,rfl,rfl,rfl⟩ | ⟨_,h⟩
 .simp
 rcases h with⟨_,rfl,rfl,rfl⟩ | ⟨_,h⟩
 .simp
 rcases h with⟨_,rfl,rfl,rfl⟩ | ⟨_,h⟩
 .simp
 rcases h with⟨_,rfl,rfl,rfl⟩ | ⟨_,h⟩
 .simp
 rcases h with⟨_,rfl,rfl,rfl⟩ | ⟨_,h⟩
 .simp
 rcases h with⟨_,h⟩ | ⟨_,h⟩
 .have:=b5a _ _ _ _ _ _ h;omega
 rcases h with⟨_,b,s,u,h1,rfl,rfl,rfl⟩ | ⟨_,h⟩
 .have:=a2p hQ _ _ _ _ _ h1;simp;try omega
 rcases h with⟨_,h⟩ | ⟨_,h⟩
 .have:=a6h hE _ _ _ _ _ _ h;omega
 rcases h with⟨_,h⟩ | ⟨_,h⟩
 .have:=a7v hE _ _ _ _ _ _ h;omega
 rcases h with⟨_,(⟨_,b,s,u,h1,rfl,rfl,rfl⟩ | ⟨_,h⟩)⟩ | ⟨_,h⟩
 .have:=a2p hQ _ _ _ _ _ h1;simp;try omega
 .have:=a2p hE _ _ _ _ _ h;omega
 exact b1R hE _ _ _ _ _ _ h
theorem a4m (hE:Gro 999 E) (hQ:Gro 900 Q):Gro 999 (negF V E Q):=a6D (a7w hE hQ) (by omega) _
theorem b0L (hE:Gro 999 E) (hQ:Gro 900 Q):Gro 999 (mulF V E Q):=a3z (a4m hE hQ) (by omega)
theorem b0M (hE:Gro 999 E) (hQ:Gro 900 Q):Gro 999 (sumF V E Q):=a3z (b0L hE hQ) (by omega)
theorem a6E (hE:Gro 999 E) (hQ:Gro 900 Q):Gro 999 (catF V E Q):=a3z (b0M hE hQ) (by omega)
theorem b7m {C:M Int} (hC:Gro 999 C) (l ps:Int):Gro 999 (isF V C l ps):=fun p o a q o' h=>by
 unfold isF at h;simp only[a0o,R.bind_iff,a0y,a0E] at h;have:=a5z (sees V p a1t);rcases h with⟨_,rfl,rfl,rfl⟩ | ⟨_,_,_,_,⟨_,rfl,rfl⟩,_,_,_,⟨_,rfl,rfl⟩,b,s,u,h1,rfl,rfl,rfl⟩
 .simp;try omega
 have e1:=hC _ _ _ _ _ h1;simp;try omega
theorem b7n (hE:Gro 999 E) (hQ:Gro 900 Q) (l nt ps:Int):Gro 999 (inF V E Q l nt ps):=fun p o a q o' h=>by
 unfold inF at h;simp only[a0o,R.bind_iff,a0y,a0E] at h;obtain⟨_,_,_,⟨_,rfl,rfl⟩,h⟩:=h;rcases h with⟨_,b,s,u,h1,_,_,_,⟨_,rfl,rfl⟩,rfl,rfl,rfl⟩ | ⟨_,b,s,u,h1,_,_,_,⟨_,rfl,rfl⟩,rfl,rfl,rfl⟩
 .have e1:=hQ _ _ _ _ _ h1;simp;try omega
 have e1:=a0D hE (by omega) _ _ _ _ _ h1;simp;try omega
theorem b3p {C:M Int} (hC:Gro 999 C) (hE:Gro 999 E) (hQ:Gro 900 Q) (l ps:Int) (b:Bool):Gr0 0 (a8o V C E Q l ps b):=fun p o a q o' h=>by
 unfold a8o at h;simp only[a0o,R.bind_iff,a0y,a0E] at h;rcases h with⟨_,h⟩ | ⟨_,h⟩
 .have:=b7n hE hQ _ _ _ _ _ _ _ _ h;omega
 rcases h with⟨_,b1,s1,u1,h1,_,_,_,⟨_,rfl,rfl⟩,b2,s2,u2,h2,rfl,rfl,rfl⟩ | ⟨_,h⟩
 .have e1:=hC _ _ _ _ _ h1;have e2:=hC _ _ _ _ _ h2;simp;try omega
 rcases h with⟨_,b1,s1,u1,h1,rfl,rfl,rfl⟩ | ⟨_,h⟩
 .have e1:=hC _ _ _ _ _ h1;simp;try omega
 rcases h with⟨_,h⟩ | ⟨_,h⟩
 .simp at h
 simp at h;obtain⟨rfl,rfl,rfl⟩:=h;omega
theorem a7x {C:M Int} (hC:Gro 999 C) (hE:Gro 999 E) (hQ:Gro 900 Q):Gro 999 (a4z V C E Q):=fun p o a q o' h=>by
 unfold a4z at h;simp only[R.bind_iff] at h;obtain⟨b,s,u,h1,h2⟩:=h;have e1:=hC _ _ _ _ _ h1;unfold a5R at h2;split at h2
 .simp only[R.bind_iff,a0y] at h2;obtain⟨b2,s2,u2,h2,rfl,rfl,rfl⟩:=h2;have e2:=hC _ _ _ _ _ h2;simp;try omega
 unfold a8p at h2;simp only[a0o] at h2;rcases h2 with⟨_,h2⟩ | ⟨_,h2⟩
 .have:=b7m hC _ _ _ _ _ _ _ h2;omega
 have:=b3p hC hE hQ _ _ _ _ _ _ _ _ h2;have:=a5z (sees V s a1t);omega
theorem b0N (hE:Gro 999 E) (hQ:Gro 900 Q):Gro 999 (notF V E Q):=a6D (a7x (a6E hE hQ) hE hQ) (by omega) _
theorem b0O (hE:Gro 999 E) (hQ:Gro 900 Q):Gro 999 (andF V E Q):=a3z (b0N hE hQ) (by omega)
theorem a2E (hE:Gro 999 E) (hQ:Gro 900 Q):Gro 999 (a2t V E Q):=a3z (b0O hE hQ) (by omega)
theorem a3b:Gr0 0 (a2C V):=fun p o a q o' h=>by
 unfold a2C at h;simp only[a0o,a1R] at h;rcases h with⟨_,_,rfl,rfl,rfl⟩ | ⟨_,(⟨_,_,rfl,rfl,rfl⟩ | ⟨_,h⟩)⟩
 .omega
 .omega
 simp at h;obtain⟨rfl,rfl,rfl⟩:=h;omega
theorem a3A (hE:Gro 999 E):Gro 998 (a2D V E):=fun p o a q o' h=>by
 unfold a2D at h;simp only[a0o,R.bind_iff,a0y] at h;rcases h with⟨_,rfl,rfl,rfl⟩ | ⟨_,(⟨_,rfl,rfl,rfl⟩ | ⟨_,b,s,u,h1,b2,s2,u2,h2,rfl,rfl,rfl⟩)⟩
 .simp
 .simp;try omega
 have e1:=hE _ _ _ _ _ h1;have e2:=a3b _ _ _ _ _ h2;simp;try omega
theorem a3i (hQ:Gro 900 Q):Gro 998 (a1x V Q):=fun p o a q o' h=>by
 unfold a1x at h;simp only[a0o,R.bind_iff,a0y,a1R] at h;rcases h with⟨_,b,s,u,h1,_,_,_,⟨_,rfl,rfl,rfl⟩,rfl,rfl,rfl⟩ | ⟨_,_,_,_,⟨_,rfl,rfl,rfl⟩,b2,s2,u2,h2,rfl,rfl,rfl⟩
 .have e1:=a2p hQ _ _ _ _ _ h1;simp;try omega
 have e2:=a3b _ _ _ _ _ h2;simp;try omega
theorem a7y:∀ p o j q o',a6B V p o=.ok j q o'->p<=q/\o'=o/\(j=0->q=p)/\(j≠0->p<q):=fun p o a q o' h=>by
 unfold a6B at h;simp only[a0o,R.bind_iff,a0E] at h
 rcases h with⟨_,h⟩ | ⟨_,(⟨_,_,_,_,⟨_,rfl,rfl⟩,h⟩ | ⟨_,(⟨_,_,_,_,⟨_,rfl,rfl⟩,h⟩ | ⟨_,(⟨_,_,_,_,⟨_,rfl,rfl⟩,h⟩ | ⟨_,h⟩)⟩)⟩)⟩<;>simp at h<;>obtain⟨rfl,rfl,rfl⟩:=h<;>refine⟨by omega,rfl,by omega,by omega⟩
theorem a7z (hE:Gro 999 E) (hQ:Gro 900 Q):∀ k l,Gr0 0 (a2W V E Q k l)
 | 0,l=>fun p o a q o' h=>by simp[a2W] at h
 | k+1,l=>fun p o a q o' h=>by
  have ih:=a7z hE hQ k;simp only[a2W,a0o,R.bind_iff,a0E] at h;obtain⟨j,s,u,h1,h⟩:=h;obtain⟨e1,rfl,e2,e3⟩:=a7y _ _ _ _ _ h1;rcases h with⟨hj,h⟩ | ⟨hj,b,s2,u2,h2,h⟩
  .simp at h;obtain⟨rfl,rfl,rfl⟩:=h;omega
  have e4:=a3i hQ _ _ _ _ _ h2;have e5:=e3 hj;rcases h with⟨_,h⟩ | ⟨_,_,_,_,⟨_,rfl,rfl⟩,b3,s3,u3,h3,h⟩
  .have e6:=ih _ _ _ _ _ _ h;simp at e6;omega
  have e7:=hE _ _ _ _ _ h3;have e6:=ih _ _ _ _ _ _ h;simp at e6;omega
theorem a4n (hE:Gro 999 E) (hQ:Gro 900 Q):Gro 998 (a2R V E Q):=fun p o a q o' h=>by
 unfold a2R at h;simp only[R.bind_iff] at h;obtain⟨b,s,u,h1,h2⟩:=h;have e1:=a3i hQ _ _ _ _ _ h1;have e2:=a7z hE hQ _ _ _ _ _ _ _ h2;omega
theorem a1j (hE:Gro 999 E) (s:ByteArray) (op:Int) (ks:List Int):Gr0 0 (a2b V E s op ks):=fun p o a q o' h=>by
 unfold a2b at h;simp only[a0o,R.bind_iff,a0y] at h;rcases h with⟨_,b,s,u,h1,_,_,_,⟨rfl,rfl,rfl⟩,h⟩ | ⟨_,h⟩
 .have e1:=hE _ _ _ _ _ h1;simp at h;obtain⟨rfl,rfl,rfl⟩:=h;simp;try omega
 simp at h;obtain⟨rfl,rfl,rfl⟩:=h;omega
end
end Go.Proofs.YtphmpkpcamgjeaaGreatDoor
