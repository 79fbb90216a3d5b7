import Derived.Test.YtphmpkpcamgjeaaGreatDoorXAN
import Derived.RegionTactic
import Derived.Test.YtphmpkpcamgjeaaGreatDoorXAA
import Derived.Maps.AppendAt
import Derived.Deep.RegionHeld3
set_option linter.unusedVariables false
set_option linter.unusedSimpArgs false
set_option maxRecDepth 100000
set_option maxHeartbeats 16000000
namespace Go.Proofs.YtphmpkpcamgjeaaGreatDoor
open Go.ChangeShapes Go.WideShapes Go.ChangeAt Go.RowKit Go.Proofs.Tryz
section
variable {P : Program} {ops : Array Oper} {Q : Exit -> Act -> World -> Prop} {md : Region.Mode} {S : World -> Prop} {late : List Nat}
def b9C (md:Region.Mode) (ops:Array Oper) (late:List Nat) (i:Nat):Bool:=late.all fun l=>match ops[l]? with
 | some ol=>ol.after.any (fun e=>Region.binds md e&&e.on==i)
 | none=>false
def a5p (late:List Nat) (listed:Array Bool):Bool:=late.all fun l=>!listed.getD l true
theorem b4V {listed:Array Bool} (h:a5p late listed=true):a3S late listed:=fun l hl=>by
 have:=List.all_eq_true.1 h l hl;simpa using this
theorem b3k {listed:Array Bool} (h:a5p late listed=false):¬ a3S late listed:=fun z=>by
 have:a5p late listed=true:=List.all_eq_true.2 fun l hl=>by simpa using z l hl
 rw[h] at this;cases this
theorem b9D {i:Nat} (h:b9C md ops late i=true):∀ l∈late,∃ ol,ops[l]?=some ol/\∃ e∈ol.after,Region.binds md e=true/\e.on=i:=fun l hl=>by
 have h1:=List.all_eq_true.1 h l hl;split at h1
 .rename_i ol ho;obtain⟨e,he,hb⟩:=Array.any_eq_true'.1 h1;simp only[Bool.and_eq_true,beq_iff_eq] at hb;exact⟨ol,ho,e,he,hb⟩
 cases h1
theorem a7q {i:Nat} {oi:Oper} {v:Value} {f:Nat} {listed:Array Bool} {a:Act} {w:World} (hi:ops[i]?=some oi) (hs:Region.noSelect ops=true) (hf:Region.free md ops listed i=true) (hr:(Region.ready md ops listed).contains i=true) (hil:late.contains i=false) (hQ:∀ c a w,Q (.panic c) (a.put oi.dst v) w->Q (.panic c) a w) (hy:Yields P ops oi v a) (hS:S w)
    (h:wpTill P md ops Q S late f (listed.setIfInBounds i true) (a.put oi.dst v) w):wpTill P md ops Q S late (f+1) listed a w:=
  wpTill.free hi (Region.noSelect_spec hs) hQ (fun z=>by rw[List.contains_iff_mem.2 z] at hil;cases hil) f listed a w (Region.free_spec hi hf) (by simpa using hr) hy (fun _=>hS) h
def Closed (md:Region.Mode) (ops:Array Oper) (listed:Array Bool):Prop:=∀ k ok,listed.getD k false=true->ops[k]?=some ok->∀ e∈ok.after,Region.binds md e=true->listed.getD e.on false=true
def a8r (md:Region.Mode) (ops:Array Oper) (listed:Array Bool):Bool:=(List.range ops.size).all fun k=>!listed.getD k false || match ops[k]? with
 | some ok=>ok.after.all (fun e=>!Region.binds md e || listed.getD e.on false)
 | none=>true
theorem b3l {listed:Array Bool} (h:a8r md ops listed=true):Closed md ops listed:=fun k ok hk hok e he hb=>by
 have h1:=List.all_eq_true.1 h k (List.mem_range.2 (Array.getElem?_eq_some_iff.1 hok).1);simp only[hk,hok,Bool.not_true,Bool.false_or] at h1;have h2:=Array.all_eq_true_iff_forall_mem.1 h1 e he;simpa[hb] using h2
theorem a5q {listed:Array Bool} {j x:Nat} (h:listed.getD x false=true):(listed.setIfInBounds j true).getD x false=true:=by
 by_cases e:j=x
 .subst e;rcases Nat.lt_or_ge j listed.size with z | z
  .simp[z]
  simp[Array.getElem?_eq_none z] at h
 rw[getD_set_ne false e];exact h
theorem Closed.set {listed:Array Bool} {j:Nat} (h:Closed md ops listed) (hj:j∈Region.ready md ops listed):Closed md ops (listed.setIfInBounds j true):=fun k ok hk hok e he hb=>by
 by_cases z:j=k
 .subst z;obtain⟨_,o,ho,hall⟩:=mem_ready.1 hj;rw[hok] at ho;injection ho with ho;subst ho;exact a5q (hall e he hb)
 rw[getD_set_ne false z] at hk;exact a5q (h k ok hk hok e he hb)
def a4P (md:Region.Mode) (ops:Array Oper):Nat->Nat->Nat->Bool
 | 0,_,_=>false
 | n+1,l,i=>match ops[l]? with
 | some ol=>ol.after.any fun e=>Region.binds md e&&(e.on==i || a4P md ops n e.on i)
 | none=>false
theorem a6c {n l i:Nat} (h:a4P md ops (n+1) l i=true):∃ ol,ops[l]?=some ol/\∃ e∈ol.after,Region.binds md e=true/\(e.on=i\/a4P md ops n e.on i=true):=by
 unfold a4P at h;split at h
 .rename_i ol ho;obtain⟨e,he,hb⟩:=Array.any_eq_true'.1 h;simp only[Bool.and_eq_true,Bool.or_eq_true,beq_iff_eq] at hb;exact⟨ol,ho,e,he,hb⟩
 cases h
theorem a4Q {listed:Array Bool} {i:Nat} (hc:Closed md ops listed):∀ (n k:Nat),listed.getD k false=true->a4P md ops n k i=true->listed.getD i false=true
 | 0,_,_,h=>by cases h
 | n+1,k,hk,h=>by
  obtain⟨ol,ho,e,he,hb,z⟩:=a6c h;have h1:=hc k ol hk ho e he hb;rcases z with z | z
  .rw[<- z];exact h1
  exact a4Q hc n e.on h1 z
theorem a8s {listed:Array Bool} {i l:Nat} (hc:Closed md ops listed) (hl:l∈Region.ready md ops listed):∀ (n:Nat),a4P md ops n l i=true->listed.getD i false=true
 | 0,h=>by cases h
 | n+1,h=>by
  obtain⟨ol,ho,e,he,hb,z⟩:=a6c h;obtain⟨_,o,a0,hall⟩:=mem_ready.1 hl;rw[ho] at a0;injection a0 with a0;subst a0;have h1:=hall e he hb;rcases z with z | z
  .rw[<- z];exact h1
  exact a4Q hc n e.on h1 z
theorem wpTill.load2 {i n:Nat} {oi:Oper} {v:Value} (hi:ops[i]?=some oi) (hsel:∀ (j:Nat) (o:Oper) cs b,ops[j]?=some o->o.op≠.select cs b) (hQ:∀ c a w,Q (.panic c) (a.put oi.dst v) w->Q (.panic c) a w)
    (hlate:∀ l∈late,a4P md ops n l i=true) :
    ∀ (f:Nat) (listed:Array Bool) (a:Act) (w:World),Closed md ops listed ->
      (∀ k ok,ops[k]?=some ok->k≠i->listed.getD k true=false->(∀ e∈ok.after,Region.binds md e=true->e.on≠i)->oi.apart ops ok=true) ->
      i∈Region.ready md ops listed->a3S late listed->YieldsIf P ops S oi v a->S w ->
 wpTill P md ops Q S late f (listed.setIfInBounds i true) (a.put oi.dst v) w->wpTill P md ops Q S late (f+1) listed a w:=by
 have hnl:∀ listed:Array Bool,Closed md ops listed->i∈Region.ready md ops listed->∀ j∈Region.ready md ops listed,¬ j∈late:=fun listed hc hr j hj hl=>by
  have h1:=a8s hc hj n (hlate j hl);rw[b0J (mem_ready.1 hr).1] at h1;cases h1
 intro f
 induction f with
 | zero=>
  intro listed a w hc _ hr _ hy hS H;refine⟨fun z=>(by rw[z] at hr;cases hr),fun j hj=>?_⟩;by_cases hji:j=i
  .subst hji;exact hy.wpOp hi hS ⟨fun _=>hS,H⟩
  have z:=ready_mono hj hji;rw[H.1] at z;cases z
 | succ f ih=>
 intro listed a w hc hfree hr hE hy hS H;refine⟨fun z=>(by rw[z] at hr;cases hr),fun j hj=>?_⟩;by_cases hji:j=i
 .subst hji;exact hy.wpOp hi hS ⟨fun _=>hS,H⟩
 obtain⟨hjun,oj,hoj,_⟩:=mem_ready.1 hj;have h1:=H.2 j (ready_mono hj hji);have h2:=wpOp_putIf hoj (hfree j oj hoj hji hjun (a5e hr hj hoj)) (fun cs b=>hsel i oi cs b hi) (fun cs b=>hsel j oj cs b hoj) hQ hy h1;have hjl:=hnl listed hc hr j hj;have hil:=hnl listed hc hr i hr;have a1:a3S late (listed.setIfInBounds j true):=(a1P hjl).2 hE;have a0:a3S late ((listed.setIfInBounds i true).setIfInBounds j true):=(a1P hjl).2 ((a1P hil).2 hE);refine wpOp_mono (fun a' w' z=>⟨fun _=>z.2.1 a0,ih (listed.setIfInBounds j true) a' w' (hc.set hj) (a6C hjun hfree) (ready_mono hr (Ne.symm hji)) a1 z.1 (z.2.1 a0) ?_⟩) h2;rw[Array.setIfInBounds_comm _ _ hji];exact z.2.2
def b6t (md:Region.Mode) (ops:Array Oper) (late:List Nat) (i:Nat):Bool:=late.all fun l=>a4P md ops 9 l i
theorem a7r {i:Nat} {oi:Oper} {v:Value} {f:Nat} {listed:Array Bool} {a:Act} {w:World} (hi:ops[i]?=some oi) (hs:Region.noSelect ops=true) (hf:Region.free md ops listed i=true) (hr:(Region.ready md ops listed).contains i=true) (hl:b6t md ops late i=true) (hc:a8r md ops listed=true) (he:a5p late listed=true) (hQ:∀ c a w,Q (.panic c) (a.put oi.dst v) w->Q (.panic c) a w) (hy:YieldsIf P ops S oi v a) (hS:S w)
    (h:wpTill P md ops Q S late f (listed.setIfInBounds i true) (a.put oi.dst v) w):wpTill P md ops Q S late (f+1) listed a w:=
  wpTill.load2 (n:=9) hi (Region.noSelect_spec hs) hQ (fun l z=>List.all_eq_true.1 hl l z) f listed a w (b3l hc) (Region.free_spec hi hf) (by simpa using hr) (b4V he) hy hS h
theorem tT (i : Nat) {oi : Oper} {v : Value} {f : Nat} {listed : Array Bool} {a : Act} {w : World} (hi : ops.toList[i]? = some oi) (hS : S w) (h : wpTill P md ops Q S late f (listed.setIfInBounds i true) (a.put oi.dst v) w) (hy : Yields P ops oi v a := by exact Or.inl ⟨by rfl, by intro w; go_simp; try with_reducible rfl⟩) (hQ : ∀ c a w, Q (.panic c) (a.put oi.dst v) w -> Q (.panic c) a w := by exact fun _ _ _ h => h) (hs : Region.noSelect ops = true := by kernel_rfl) (hf : Region.free md ops listed i = true := by kernel_rfl) (hr : (Region.ready md ops listed).contains i = true := by kernel_rfl) (hil : late.contains i = false := by kernel_rfl) : wpTill P md ops Q S late (f + 1) listed a w := a7q (Array.getElem?_toList.symm.trans hi) hs hf hr hil hQ hy hS h
theorem tL (i : Nat) {oi : Oper} {v : Value} {f : Nat} {listed : Array Bool} {a : Act} {w : World} (hi : ops.toList[i]? = some oi) (hS : S w) (h : wpTill P md ops Q S late f (listed.setIfInBounds i true) (a.put oi.dst v) w) (hy : YieldsIf P ops S oi v a := by exact Or.inl ⟨by rfl, by intro w hSw; (try dsimp only at hSw); go_simp; try with_reducible rfl⟩) (hQ : ∀ c a w, Q (.panic c) (a.put oi.dst v) w -> Q (.panic c) a w := by exact fun _ _ _ h => h) (hs : Region.noSelect ops = true := by kernel_rfl) (hf : Region.free md ops listed i = true := by kernel_rfl) (hr : (Region.ready md ops listed).contains i = true := by kernel_rfl) (hl : b6t md ops late i = true := by kernel_rfl) (hc : a8r md ops listed = true := by kernel_rfl) (he : a5p late listed = true := by kernel_rfl) : wpTill P md ops Q S late (f + 1) listed a w := a7r (Array.getElem?_toList.symm.trans hi) hs hf hr hl hc he hQ hy hS h
def TillAll (P:Program) (md:Region.Mode) (ops:Array Oper) (Q:Exit->Act->World->Prop) (S:World->Prop) (late:List Nat) (f:Nat) (listed:Array Bool) (a:Act) (w:World) (rs:List Nat):Prop:=
  ∀ i∈rs,wpOp P ops Q i (fun a' w'=>(a3S late (listed.setIfInBounds i true)->S w')/\wpTill P md ops Q S late f (listed.setIfInBounds i true) a' w') a w
theorem TillAll.nil {f:Nat} {listed:Array Bool} {a:Act} {w:World}:TillAll P md ops Q S late f listed a w []:=fun _ h=>by cases h
theorem TillAll.cons {f:Nat} {listed:Array Bool} {a:Act} {w:World} {i:Nat} {o:Oper} {rs:List Nat} (ho:ops[i]?=some o)
    (h:∀ K':Act->World->Prop,(∀ a w,S w/\wpTill P md ops Q S late f (listed.setIfInBounds i true) a w->K' a w)->if Region.wanted o (yielded ops a.tmps)=true then Oper.wp P o a w K' Q else K' (a.put o.dst undef) w)
 (hs:TillAll P md ops Q S late f listed a w rs):TillAll P md ops Q S late f listed a w (i::rs):=fun j hj=>by
 rcases List.mem_cons.1 hj with rfl | hj
 .exact wpOp_step ho (fun K' hK=>h K' (fun a w z=>hK a w ⟨fun _=>z.1,z.2⟩))
 exact hs j hj
theorem TillAll.cons2 {f:Nat} {listed:Array Bool} {a:Act} {w:World} {i:Nat} {o:Oper} {rs:List Nat} (ho:ops[i]?=some o) (he:a5p late (listed.setIfInBounds i true)=false)
    (h:∀ K':Act->World->Prop,(∀ a w,wpTill P md ops Q S late f (listed.setIfInBounds i true) a w->K' a w)->if Region.wanted o (yielded ops a.tmps)=true then Oper.wp P o a w K' Q else K' (a.put o.dst undef) w)
 (hs:TillAll P md ops Q S late f listed a w rs):TillAll P md ops Q S late f listed a w (i::rs):=fun j hj=>by
 rcases List.mem_cons.1 hj with rfl | hj
 .exact wpOp_step ho (fun K' hK=>h K' (fun a w z=>hK a w ⟨fun y=>absurd y (b3k he),z⟩))
 exact hs j hj
theorem a4A {rs:List Nat} {f:Nat} {listed:Array Bool} {a:Act} {w:World} (hr:Region.ready md ops listed=rs) (hne:rs≠[]) (h:TillAll P md ops Q S late f listed a w rs):wpTill P md ops Q S late (f+1) listed a w:=
  ⟨fun h0=>absurd (hr ▸ h0) hne,hr ▸ h⟩
theorem rE (i : Nat) {o : Oper} {f : Nat} {listed : Array Bool} {a : Act} {w : World} (ho : ops.toList[i]? = some o) (h : ∀ K' : Act -> World -> Prop, (∀ a w, S w /\ wpTill P md ops Q S late f (listed.setIfInBounds i true) a w -> K' a w) -> if Region.wanted o (yielded ops a.tmps) = true then Oper.wp P o a w K' Q else K' (a.put o.dst undef) w) (hr : Region.ready md ops listed = [i] := by kernel_rfl) : wpTill P md ops Q S late (f + 1) listed a w := a4A hr (by simp) (TillAll.cons (Array.getElem?_toList.symm.trans ho) h TillAll.nil)
theorem rL (i : Nat) {o : Oper} {f : Nat} {listed : Array Bool} {a : Act} {w : World} (ho : ops.toList[i]? = some o) (h : ∀ K' : Act -> World -> Prop, (∀ a w, wpTill P md ops Q S late f (listed.setIfInBounds i true) a w -> K' a w) -> if Region.wanted o (yielded ops a.tmps) = true then Oper.wp P o a w K' Q else K' (a.put o.dst undef) w) (hr : Region.ready md ops listed = [i] := by kernel_rfl) (he : a5p late (listed.setIfInBounds i true) = false := by kernel_rfl) : wpTill P md ops Q S late (f + 1) listed a w := a4A hr (by simp) (TillAll.cons2 (Array.getElem?_toList.symm.trans ho) he h TillAll.nil)
theorem a0h {listed:Array Bool} {a:Act} {w:World} (hr:Region.ready md ops listed=[]) (h:Q .normal a w):∀ f,wpTill P md ops Q S late f listed a w
 | 0=>⟨hr,h⟩
 | _+1=>⟨fun _=>h,by rw[hr];simp⟩
theorem a0a {id:Nat} {a:Act} {w:World} (hm:P.follows .mixedOrders=true) (hS:S w.drew)
    (h:S w.drew->wpTill P .any ops Q S late ops.size (Array.replicate ops.size false) a w.drew):(Code.region id ops true).wp P Q a w:=
  wp_region_any hm (wpTill.any _ _ _ _ (h hS))
end
theorem info_parts {P:Program} {t:Nat} {z:Value} {k b:Nat} (h:(P.info? t).map (fun i=>(i.zero,i.size,i.bytes))=some (some z,k,b)):∃ i,P.info? t=some i/\i.zero=some z/\i.size=k/\i.bytes=b:=by
 cases hi:P.info? t with
 | none=>rw[hi] at h;simp at h
 | some i=>
 rw[hi] at h;simp at h;exact⟨i,rfl,h.1,h.2.1,h.2.2⟩
theorem b8A:(prog.info? 42).map (fun i=>(i.zero,i.size,i.bytes))=some (some (.agg #[.int .i64 0,.string ⟨#[]⟩,.string ⟨#[]⟩,.int .i64 0,.int .i64 0,.int .i64 0,.int .i64 0,.string ⟨#[]⟩,.slice none 0 0,.int .i64 0]),10,120):=by kernel_rfl
theorem a0e {P:Program} {ops:Array Oper} {o:Oper} {a:Act} {w:World} {K:Act->World->Prop} {Q:Exit->Act->World->Prop} {E:Prop} (hg:o.guard=none) (s x:Operand) (t:TypeId) (hop:o.op=Op.call { callee:=Callee.builtin Builtin.append,args:=#[s,x],argTypes:=#[t,t] }) (v y:Value) (hs:a.eval s=v) (hx:a.eval x=y) (v':Value) (w':World) (hrun:(Builtin.append_ #[t,t] o.type #[v,y]).run P w=.ok v' w') (hK:K (a.put o.dst v') w') :
 if Region.wanted o (yielded ops a.tmps)=true then Oper.wp P o a w K Q else E:=by
 have hw:Region.wanted o (yielded ops a.tmps)=true:=by simp[Region.wanted,hg]
 rw[if_pos hw];unfold Oper.wp;simp[execOp,hop,resolve,invoke,builtin,hs,hx,hrun,Result.andThen];exact hK
theorem a2c {w:World} {b e k n:Nat} {v:Value} {xs:List Value} (h:w.ownsRow b e k v n xs):∃ a c,v=.slice a n c:=by
 obtain⟨_,h2⟩:=h;rcases h2 with⟨rfl,rfl⟩ | ⟨g,cap,cur,rfl,_⟩
 .exact⟨_,_,rfl⟩
 exact⟨_,_,rfl⟩
theorem SM.push {V:Env} {src:ByteArray} {r B:Nat} {D:Nat->Prop} {w:World} {p:Nat} {x:Option (List Nd)} {m:Nat} (h:SM V src r B D w p x m) {tv ov ov':Value} {xs:List Value} {w1 w3:World} {t:Nd} {kv:Value} (h1:w.heap[r]?=some (.cells #[.string src,tv,.int .i64 p,ov,.bool x.isNone] 35 (0,0))) (h2:TL 50 3 CT w tv V.ts) (h3:w.ownsRow B 42 10 ov m xs) (h4:∀ o,x=some o->o.length=m/\∃ ks,NR w D xs o ks)
    (hk:KS w kv t.kids) (hd:0<t.kids.length->Out D kv) (hb:Below w.heap.size w w1) (hg:w1.grownBy w3 ov.ownBlock) (ho:w3.ownsRow B 42 10 ov' (m+1) (xs++ndC t kv)) (hat:ov'.ownBlock=ov.ownBlock\/ov'.ownBlock=some w1.heap.size) :
 SM V src r B D (w3.setCell ⟨r,3,none⟩ ov') p (x.map (·++[t])) (m+1)/\Sp 3 r w (w3.setCell ⟨r,3,none⟩ ov'):=by
 have hrl:=h.rl;have hbs:=hb.size;have hgs:=hg.size;have k3:∀ g,g<w.heap.size->ov.ownBlock≠some g->w3.heap[g]?=w.heap[g]?:=fun g e1 e2=>(hg.block g (by omega) (fun e=>e2 e.symm)).trans (hb.block g e1);have hor:ov.ownBlock≠some r:=fun e=>a0t (a0n h3 e) h.rt (by decide) rfl;have a2:w3.heap[r]?=some (.cells #[.string src,tv,.int .i64 p,ov,.bool x.isNone] 35 (0,0)):=(k3 r hrl hor).trans h1;have a0:=heap_setCell_same w3 r 3 _ _ ov' a2;have k4:∀ g,g≠r->(w3.setCell ⟨r,3,none⟩ ov').heap[g]?=w3.heap[g]?:=fun g e=>heap_setCell_other w3 _ g _ e;have kk:∀ g ty,tag w g ty->ty≠35->ty≠42->(w3.setCell ⟨r,3,none⟩ ov').heap[g]?=w.heap[g]?:=fun g ty e1 e2 e3=>(k4 g (a0t e1 h.rt e2)).trans (k3 g (a0x e1) (fun e=>a0t e1 (a0n h3 e) e3 rfl))
 have hor':ov'.ownBlock≠some r:=fun e=>by
  rcases hat with z | z
  .exact hor (z ▸ e)
  rw[e] at z
  have:r=w1.heap.size:=by simpa using z
  omega
 have ss:w.heap.size<=(w3.setCell ⟨r,3,none⟩ ov').heap.size:=by simp;omega
 refine⟨⟨h.le,Nat.le_trans h.hb ss,fun g hg=>Nat.lt_of_lt_of_le (h.dl g hg) ss,tv,ov',xs++ndC t kv,by rw[a0];cases x<;>rfl,TL.keep h2 ss (fun g hg=>kk g _ hg (by decide) (by decide)) (fun h=>h),a0L ho (fun g hg=>k4 g (fun e=>hor' (e ▸ hg))),fun o e=>?_⟩,?_⟩
 .cases x with
  | none=>cases e
  | some o0=>
  obtain⟨a,ks,b⟩:=h4 o0 rfl;cases e;exact⟨by simp[a],ks++[kv],(b.snoc hk hd).keep ss (fun g hg _=>kk g _ hg (by decide) (by decide))⟩
 have bb:=(Below.refl 0 w3).setCell (p:=⟨r,3,none⟩) (Nat.zero_le _) ov'
 have a1:ob 3 r w=ov.ownBlock:=by unfold ob;rw[(cell_of h1 (j:=3)).1];rfl
 have a3:ob 3 r (w3.setCell ⟨r,3,none⟩ ov')=ov'.ownBlock:=by unfold ob;rw[(cell_of a0 (j:=3)).1];rfl
 exact⟨bb.os.trans (hg.os.trans hb.os),bb.tape.trans (hg.tape.trans hb.tape),bb.output.trans (hg.output.trans hb.output),ss,hrl,fun g e1 e2 e3=>(k4 g e2).trans (k3 g e1 (by rw[<- a1];exact e3)),fun g e=>by
  rw[a3] at e;rw[a1];rcases hat with z | z
  .exact .inl (z ▸ e)
  rw[e] at z
  have:g=w1.heap.size:=by simpa using z
  exact .inr (by omega)⟩
theorem Res.layR {V:Env} (t:Nd) (p:Nat) (x:Option (List Nd)) (m:Nat) (h:∀ o,x=some o->o.length=m):Res V 1 0 (lay t p) p x m p (x.map (·++[t])) (m+1) (m:Int):=
  ⟨fun e=>by subst e;exact⟨rfl,rfl⟩,fun o e=>by subst e;unfold lay;rw[h o rfl];rfl,Nat.le_refl _,by cases x<;>simp[pot]<;>omega⟩
theorem a0g {V:Env} {src:ByteArray} {r B:Nat} {D:Nat->Prop} {w:World} {p:Nat} {x:Option (List Nd)} {m:Nat} (h:SM V src r B D w p x m) (hm:m<=5000000) (t:Nd) (kv:Value) (hk:KS w kv t.kids) (hd:0<t.kids.length->Out D kv) :
 Calls prog 26 #[.pointer (some ⟨r,0,none⟩),.agg #[.int .i64 t.op,.string t.name,.string t.qual,.int .i64 t.n,.int .i64 t.m,.int .i64 t.vk,.int .i64 t.vn,.string t.vs,kv,.int .i64 t.pos]] w fun e w'=>e=.returned (.int .i64 (m:Int))/\SM V src r B D w' p (x.map (·++[t])) (m+1)/\Sp 3 r w w'/\Res V 1 0 (lay t p) p x m p (x.map (·++[t])) (m+1) (m:Int):=by
 obtain⟨i0,hi,a2,a3,a4⟩:=info_parts b8A;obtain⟨tv,ov,xs,h1,h2,h3,h4⟩:=h.ex;have hrl:=h.rl;obtain⟨oa,oc,rfl⟩:=a2c h3;have HRES:=hid (Res.layR (V:=V) t p x m (fun o e=>(h4 o e).1));have c3:=(cell_of h1 (j:=3)).1;have f3:=(cell_of h1 (j:=3)).2;simp only[List.getElem?_toArray,List.getElem?_cons_succ,List.getElem?_cons_zero] at c3;have a7:∀ o,(w.alloc o).cell? ⟨r,3,none⟩=some (.slice oa m oc):=fun o=>(World.cell?_alloc_lt _ _ ⟨r,3,none⟩ hrl).trans c3;have a8:∀ o,(w.alloc o).frozen? ⟨r,3,none⟩=false:=fun o=>((below_alloc w o).frozen (p:=⟨r,3,none⟩) hrl).trans f3
 have a6:kv.oneCell'=true:=by
  obtain⟨⟨a,c,e,_⟩,_⟩:=hk;rw[e];rfl
 obtain⟨ka,kc,rfl⟩:∃ a c,kv=.slice a t.kids.length c:=by
  obtain⟨⟨a,c,e,_⟩,_⟩:=hk;exact⟨a,c,e⟩
 have HP:=fun w3 ov' a b c d=>hid (h.push (w1:=((w.alloc (.cells #[.int .i64 t.op,.string t.name,.string t.qual,.int .i64 t.n,.int .i64 t.m,.int .i64 t.vk,.int .i64 t.vn,.string t.vs,(.slice ka t.kids.length kc),.int .i64 t.pos] 42)).drew.alloc (.cells #[.int .i64 t.op,.string t.name,.string t.qual,.int .i64 t.n,.int .i64 t.m,.int .i64 t.vk,.int .i64 t.vn,.string t.vs,(.slice ka t.kids.length kc),.int .i64 t.pos] 42))) (w3:=w3) (ov':=ov') (t:=t) h1 h2 h3 h4 hk hd a b c d)
 have a0:Hid (Below w.heap.size w ((w.alloc (.cells #[.int .i64 t.op,.string t.name,.string t.qual,.int .i64 t.n,.int .i64 t.m,.int .i64 t.vk,.int .i64 t.vn,.string t.vs,(.slice ka t.kids.length kc),.int .i64 t.pos] 42)).drew.alloc (.cells #[.int .i64 t.op,.string t.name,.string t.qual,.int .i64 t.n,.int .i64 t.m,.int .i64 t.vk,.int .i64 t.vn,.string t.vs,(.slice ka t.kids.length kc),.int .i64 t.pos] 42))):=((below_alloc w _).drew).alloc (by simp) _
 have hnew:∀ j u,(ndC t (.slice ka t.kids.length kc))[j]?=some u->(((w.alloc (.cells #[.int .i64 t.op,.string t.name,.string t.qual,.int .i64 t.n,.int .i64 t.m,.int .i64 t.vk,.int .i64 t.vn,.string t.vs,(.slice ka t.kids.length kc),.int .i64 t.pos] 42)).drew.alloc (.cells #[.int .i64 t.op,.string t.name,.string t.qual,.int .i64 t.n,.int .i64 t.m,.int .i64 t.vk,.int .i64 t.vn,.string t.vs,(.slice ka t.kids.length kc),.int .i64 t.pos] 42))).cell? ((⟨w.heap.size+1,0,none⟩:Addr).add j)=some u:=fun j u hj=>by
  rw[Addr.add_lit,World.cell?_alloc_at _ _ _ _ (by simp)];simpa[ndC] using hj
 obtain⟨v',W3,hrun,hown,hgrow,_,hat⟩:=run_append_own_at (P:=prog) ((w.alloc (.cells #[.int .i64 t.op,.string t.name,.string t.qual,.int .i64 t.n,.int .i64 t.m,.int .i64 t.vk,.int .i64 t.vn,.string t.vs,(.slice ka t.kids.length kc),.int .i64 t.pos] 42)).drew.alloc (.cells #[.int .i64 t.op,.string t.name,.string t.qual,.int .i64 t.n,.int .i64 t.m,.int .i64 t.vk,.int .i64 t.vn,.string t.vs,(.slice ka t.kids.length kc),.int .i64 t.pos] 42)) B 22 22 42 i0 _ 10 120 underlying22 hi a2 a3 a4 rfl (by omega) (.slice oa m oc) m xs (own_below h3 a0.out) ⟨w.heap.size+1,0,none⟩ 1 1 (ndC t (.slice ka t.kids.length kc)) rfl hnew (by simp[ndC,Value.oneCell']) (by unfold maxLen;omega) (by omega) (by have:=a0.out.size;have:=h.hb;omega);obtain⟨na,nc,rfl⟩:=a2c hown;have HPP:=HP W3 _ a0.out hgrow hown hat
 have a1:W3.heap[r]?=w.heap[r]?:=(hgrow.block r (by have:=a0.out.size;omega) (fun e=>a0t (a0n h3 e.symm) h.rt (by decide) rfl)).trans (a0.out.block r hrl);have a5:W3.cell? ⟨r,3,none⟩=some (.slice oa m oc):=(World.cell?_of_block (a:=⟨r,3,none⟩) a1).trans c3;have a9:W3.frozen? ⟨r,3,none⟩=false:=(World.frozen?_of_block (a:=⟨r,3,none⟩) a1).trans f3
 have hbx:∀ j,W3.cell? ⟨w.heap.size,j,none⟩=(w.alloc (.cells #[.int .i64 t.op,.string t.name,.string t.qual,.int .i64 t.n,.int .i64 t.m,.int .i64 t.vk,.int .i64 t.vn,.string t.vs,(.slice ka t.kids.length kc),.int .i64 t.pos] 42)).cell? ⟨w.heap.size,j,none⟩:=fun j=>(World.cell?_of_block (a:=⟨w.heap.size,j,none⟩) (hgrow.block w.heap.size (by simp;omega) (fun e=>by have:=(a0x (a0n h3 e.symm));omega))).trans (World.cell?_alloc_lt _ _ ⟨w.heap.size,j,none⟩ (by simp))
 have hmw:((m:Int)+1)-1=m:=by omega
 clear hown hgrow hat HP hnew h1 h2 h3 h4 hk hd a1;go_enter func26,ntmps26;go_wp2;refine a0a (S:=(fun W=>W.cell? ⟨r,3,none⟩=some (.slice oa m oc)/\W.cell? ⟨w.heap.size,0,none⟩=some (.int .i64 t.op)/\W.cell? ⟨w.heap.size,1,none⟩=some (.string t.name)/\W.cell? ⟨w.heap.size,2,none⟩=some (.string t.qual)/\W.cell? ⟨w.heap.size,3,none⟩=some (.int .i64 t.n)/\W.cell? ⟨w.heap.size,4,none⟩=some (.int .i64 t.m)/\W.cell? ⟨w.heap.size,5,none⟩=some (.int .i64 t.vk)/\W.cell? ⟨w.heap.size,6,none⟩=some (.int .i64 t.vn)/\W.cell? ⟨w.heap.size,7,none⟩=some (.string t.vs)/\W.cell? ⟨w.heap.size,8,none⟩=some ((.slice ka t.kids.length kc))/\W.cell? ⟨w.heap.size,9,none⟩=some (.int .i64 t.pos))) (late:=[8,9,10]) (by kernel_rfl) (by go_keep) (fun hHeld=>?_);refine tT 0 rfl hHeld ?_
 try simp only[Act.put,q1,q2,q3]
 refine tT 1 rfl hHeld ?_
 try simp only[Act.put,q1,q2,q3]
 refine tT 2 rfl hHeld ?_
 try simp only[Act.put,q1,q2,q3]
 refine tT 3 rfl hHeld ?_
 try simp only[Act.put,q1,q2,q3]
 refine tL 4 rfl hHeld ?_
 try simp only[Act.put,q1,q2,q3]
 refine tL 5 rfl hHeld ?_
 try simp only[Act.put,q1,q2,q3]
 refine rE 6 rfl fun K hK=>?_;go_simp;refine hK _ _ ⟨?_,?_⟩
 .go_keep
 clear hK K
 try simp only[Act.put,q1,q2,q3]
 refine rE 7 rfl fun K hK=>?_;refine a0e rfl (.tmp 9) (.tmp 11) 22 rfl _ _ rfl rfl _ _ hrun ?_;refine hK _ _ ⟨?_,?_⟩
 .refine⟨a5,?_⟩;simp only[hbx];go_simp
 clear hK K
 try simp only[Act.put,q1,q2,q3]
 clear hrun;refine rL 8 rfl fun K hK=>?_;go_simp;refine hK _ _ ?_;clear hK K
 try simp only[Act.put,q1,q2,q3]
 refine rL 9 rfl fun K hK=>?_;go_simp;refine hK _ _ ?_;clear hK K
 try simp only[Act.put,q1,q2,q3]
 refine rL 10 rfl fun K hK=>?_;go_simp;refine hK _ _ ?_;clear hK K
 try simp only[Act.put,q1,q2,q3]
 refine a0h (by kernel_rfl) ?_ _;go_wp2;go_ret;exact⟨rfl,HPP.out.1,HPP.out.2,HRES.out⟩
section
variable {V : Env} {src : ByteArray} {r B : Nat} {D : Nat -> Prop} {w : World} {p : Nat} {x : Option (List Nd)} {m : Nat}
theorem SM.sp (h:SM V src r B D w p x m):Sp 3 r w w:=Sp.refl h.rl
theorem a0G (hV:VO V src) (h:SM V src r B D w p x m) (s:ByteArray) :
 Calls prog 27 #[.pointer (some ⟨r,0,none⟩),.string s] w fun e w'=>∃ b,e=.returned (.bool b)/\Tq V p x s b/\w'=w:=by
 obtain⟨ta,tc,oa,oc,c0,c1,c2,c3,c4,f2,f3,f4,ht⟩:=h.cells;have hcl:=a2X hV h 0 (by omega) s
 cases x with
 | none=>
  have HR:Hid (Tq V p none s false):=rfl;go_enter func27,ntmps27;go_wp2;go_ret;exact⟨_,rfl,HR.out,rfl⟩
 | some o=>
 have HR:Hid (Tq V p (some o) s (sees V p s)):=by simp[Hid,Tq]
 go_enter func27,ntmps27;go_wp2_with fail;refine hcl.mono ?_;rintro e w1 ⟨rfl,h1⟩;replace h1:=h1.symm;subst h1;rw[Nat.add_zero];go_wp2;go_ret;exact⟨_,rfl,HR.out,rfl⟩
theorem a0b (hV:VO V src) (h:SM V src r B D w p x m) (s:ByteArray) :
 Calls prog 11 #[.pointer (some ⟨r,0,none⟩),.string s] w fun e w'=>∃ b,e=.returned (.bool b)/\Tq V p x s b/\SM V src r B D w' (p+stp b) x m/\Sp 3 r w w':=by
 obtain⟨ta,tc,oa,oc,c0,c1,c2,c3,c4,f2,f3,f4,ht⟩:=h.cells;have hn:=hV.n;have hle:=h.le
 have a0:(p:Int)<=2000:=by omega
 go_enter func11,ntmps11;go_wp2_with fail;refine(a0G hV h s).mono ?_;rintro e w1 ⟨b,rfl,hq,h1⟩;replace h1:=h1.symm;subst h1
 cases b with
 | false=>
  go_wp2;go_ret;exact⟨_,rfl,hq,h,h.sp⟩
 | true=>
 obtain⟨o,e1,e2,e3⟩:=hq.yes;go_wp2;go_ret;exact⟨_,rfl,hq,h.at (by simp[stp];omega) (by simp[stp]),h.sp.setR _ (by decide)⟩
theorem a0i (hV:VO V src) (h:SM V src r B D w p x m) (s:ByteArray) :
 Calls prog 25 #[.pointer (some ⟨r,0,none⟩),.string s] w fun e w'=>∃ q y,e=.returned (.tuple #[])/\SM V src r B D w' q y m/\Sp 3 r w w'/\Res V 0 1000 (must V s p) p x m q y m ():=by
 go_enter func25,ntmps25;go_wp2_with fail;refine(a0b hV h s).mono ?_;rintro e w1 ⟨b,rfl,hq,h1,s1⟩;obtain⟨ta,tc,oa,oc,c0,c1,c2,c3,c4,f2,f3,f4,ht⟩:=h1.cells
 cases b with
 | true=>
  have HR:=hid (Res.tkT hq (Res.pure V (fun o=>.ok () (p+1) o) (p+1) x m () (fun _ _=>rfl)) (F:=must V s p) (B:=fun _=>.bad p) (fun o=>rfl));go_wp2;go_end0;exact⟨_,_,rfl,h1,s1,HR.out⟩
 | false=>
 have HR:=hid (Res.tkF hq (Res.fail V 1000 (fun o=>.bad p) p x m () (fun _ _=>rfl)) (F:=must V s p) (A:=fun o=>.ok () (p+1) o) (fun o=>rfl));go_wp2;go_end0;exact⟨_,_,rfl,h1.bad,s1.setR _ (by decide),HR.out⟩
theorem dd2 (w:World) (a b:Nat):Below w.heap.size w ((w.drewN a).drewN b):=(a0J w a).trans ((a0J _ b).mono (a0J w a).size)
theorem a0C (hV:VO V src) (h:SM V src r B D w p x m) :
 Calls prog 12 #[.pointer (some ⟨r,0,none⟩)] w fun e w'=>e=.returned (.int .i64 (V.pos p))/\Below w.heap.size w w':=by
 obtain⟨ta,tc,oa,oc,c0,c1,c2,c3,c4,f2,f3,f4,ht⟩:=h.cells;have hn:=hV.n;have hle:=h.le
 have a1:(p:Int)<=2000:=by omega
 by_cases hlt:p<V.ts.length
 .obtain⟨g,o,rfl,htk⟩:=ht (by omega);obtain⟨t0,t1,t2⟩:=htk p hlt
  have a0:¬ (V.ts.length:Int)<=p:=by omega
  have a2:(p:Int)<V.ts.length:=by omega
  clear htk ht;generalize V.pos p=ps at *;go_enter func12,ntmps12;go_wp2;go_quiet (fail);go_wp2;go_quiet (fail);go_wp2;go_ret;exact⟨rfl,dd2 _ _ _⟩
 rw[Env.pos_out (by omega),hV.en]
 have a0:(V.ts.length:Int)<=p:=by omega
 have hsz:=hV.sz;go_enter func12,ntmps12;go_wp2;go_quiet (fail);go_wp2;go_ret;exact⟨rfl,a0J _ _⟩
theorem a4h (hV:VO V src) (h:SM V src r B D w p x m) (k:Int) (hk:k≠0) :
 Calls prog 92 #[.pointer (some ⟨r,0,none⟩),.int .i64 k] w fun e w'=>∃ b,e=.returned (.bool b)/\b=(x.isSome&&V.kd p==k)/\Below w.heap.size w w':=by
 obtain⟨ta,tc,oa,oc,c0,c1,c2,c3,c4,f2,f3,f4,ht⟩:=h.cells;have hn:=hV.n;have hle:=h.le
 have a2:(p:Int)<=2000:=by omega
 cases x with
 | none=>
  go_enter func92,ntmps92;go_wp2;go_quiet (fail);go_wp2;go_ret;exact⟨_,rfl,rfl,a0J _ _⟩
 | some o=>
 by_cases hlt:p<V.ts.length
 .obtain⟨g,o,rfl,htk⟩:=ht (by omega);obtain⟨t0,t1,t2⟩:=htk p hlt
  have a0:(p:Int)<V.ts.length:=by omega
  have a1:decide ((p:Int)<V.ts.length)=true:=by simpa using a0
  clear htk ht;generalize V.kd p=kd at *;go_enter func92,ntmps92;go_wp2;go_quiet (fail);go_wp2;go_ret;exact⟨_,rfl,by simp,a0J _ _⟩
 have hkd:=Env.kd_out (V:=V) (p:=p) (by omega)
 have HR:Hid (false=(V.kd p==k)):=by rw[hkd];simp[Hid];omega
 have a0:¬ (p:Int)<V.ts.length:=by omega
 have a1:decide ((p:Int)<V.ts.length)=false:=by simpa using a0
 clear hkd;go_enter func92,ntmps92;go_wp2;go_quiet (fail);go_wp2;go_ret;exact⟨_,rfl,HR.out,a0J _ _⟩
end
structure SV (V:Env):Prop where
  rsv:∀ p,p<V.ts.length->V.kd p=1->∀ w,Calls prog 90 #[.string (V.tx p)] w fun e w'=>e=.returned (.bool (V.rs (V.tx p)))/\Below w.heap.size w w'
  rdi:∀ p,V.kd p=3->∀ w,Calls prog 131 #[.string (V.tx p)] w fun e w'=>e=.returned (.tuple #[.int .i64 (V.ri (V.tx p)),.bool true])/\Below w.heap.size w w'
  rin:∀ p,V.kd p=3->0<=V.ri (V.tx p)
  rdd:∀ p,V.kd p=4->∀ w,Calls prog 176 #[.string (V.tx p)] w fun e w'=>e=.returned (.tuple #[.int .i64 (V.rd (V.tx p)),.bool true])/\Below w.heap.size w w'
  rdt:∀ p,V.kd p=5->∀ w,Calls prog 200 #[.string (V.tx p)] w fun e w'=>∃ n:Int,e=.returned (.tuple #[.int .i64 n,.bool (V.rt (V.tx p)).isSome])/\(∀ k,V.rt (V.tx p)=some k->n=k)/\Below w.heap.size w w'
theorem a1H (b:Bool) (w:World):Calls prog 89 #[.bool b] w fun e w'=>e=.returned (.int .i64 (bit b))/\w'=w:=by
 cases b with
 | true=>
  go_enter func89,ntmps89;go_wp2;go_ret;exact⟨rfl,rfl⟩
 | false=>
 go_enter func89,ntmps89;go_wp2;go_ret;exact⟨rfl,rfl⟩
theorem a8t {V:Env} {p:Nat} (h:isNm V p=true):p<V.ts.length:=by
 rcases Nat.lt_or_ge p V.ts.length with g | g
 .exact g
 simp[isNm,Env.kd_out g] at h
section
variable {V : Env} {src : ByteArray} {r B : Nat} {D : Nat -> Prop} {w : World} {p : Nat} {x : Option (List Nd)} {m : Nat}
theorem a4B (hV:VO V src) (hE:SV V) (h:SM V src r B D w p x m) :
 Calls prog 53 #[.pointer (some ⟨r,0,none⟩),.int .i64 0] w fun e w'=>e=.returned (.bool (isNm V p))/\Below w.heap.size w w':=by
 obtain⟨ta,tc,oa,oc,c0,c1,c2,c3,c4,f2,f3,f4,ht⟩:=h.cells;have hn:=hV.n;have hle:=h.le
 have a1:(p:Int)<=2000:=by omega
 by_cases hlt:p<V.ts.length
 .obtain⟨g,o,rfl,htk⟩:=ht (by omega);obtain⟨t0,t1,t2⟩:=htk p hlt
  have a2:(p:Int)<V.ts.length:=by omega
  have a0:¬ (V.ts.length:Int)<=p:=by omega
  clear htk ht;by_cases k2:V.kd p=2
  .rw[show isNm V p=true by simp[isNm,k2]];rw[k2] at t0;go_enter func53,ntmps53;go_wp2;go_ret;exact⟨rfl,Below.refl _ _⟩
  by_cases k1:V.kd p=1
  .have hcl:=hE.rsv p hlt k1;rw[show isNm V p = !V.rs (V.tx p) by simp[isNm,k1]];rw[k1] at t0;generalize V.rs (V.tx p)=b at *;generalize V.tx p=tx at *;clear k1 k2;go_enter func53,ntmps53;go_wp2_with fail;refine(hcl _).mono ?_;rintro e w1 ⟨rfl,hb⟩;go_wp2;go_ret;exact⟨rfl,hb⟩
  rw[show isNm V p=false by simp[isNm,k1,k2]]
  have g1:(V.kd p==1)=false:=by simpa using k1
  have g2:(V.kd p==2)=false:=by simpa using k2
  generalize V.kd p=kd at *;go_enter func53,ntmps53;go_wp2;go_ret;exact⟨rfl,Below.refl _ _⟩
 rw[show isNm V p=false by simp[isNm,Env.kd_out (V:=V) (p:=p) (by omega)]]
 have a0:(V.ts.length:Int)<=p:=by omega
 go_enter func53,ntmps53;go_wp2;go_ret;exact⟨rfl,Below.refl _ _⟩
theorem Res.nameR {V:Env} {p m:Nat} {o:List Nd} (h:isNm V p=true):Res V 0 1000 (name V p) p (some o) m (p+1) (some o) m (V.tx p):=by
 have:=a0j (m:=m) (V:=V) (x:=some o) rfl (a8t h);exact⟨fun e=>by(cases e),fun o2 e=>by(cases e;simp[name,h,rOf]),by omega,by simp;omega⟩
theorem name_any (hV:VO V src) (hE:SV V) (h:SM V src r B D w p x m) :
 Calls prog 23 #[.pointer (some ⟨r,0,none⟩)] w fun e w'=>∃ q y a,e=.returned (.string a)/\SM V src r B D w' q y m/\Sp 3 r w w'/\Res V 0 1000 (name V p) p x m q y m a:=by
 have hn:=hV.n;have hle:=h.le
 have a0:(p:Int)<=2000:=by omega
 obtain⟨ta,tc,oa,oc,c0,c1,c2,c3,c4,f2,f3,f4,ht⟩:=h.cells
 cases x with
 | none=>
  have HR:=hid (Res.fail V 1000 (name V p) p none m (⟨#[]⟩:ByteArray) (fun o e=>by cases e));go_enter func23,ntmps23;go_wp2;go_ret;exact⟨_,_,_,rfl,h.bad,h.sp.setR _ (by decide),HR.out⟩
 | some o=>
 go_enter func23,ntmps23;go_wp2_with fail;refine(a4B hV hE h).mono ?_;rintro e w1 ⟨rfl,hb⟩;have h1:=h.below hb;have s1:=h.sp.below hb;clear c0 c1 c2 c3 c4 f2 f3 f4 ht;obtain⟨ta,tc,oa,oc,c0,c1,c2,c3,c4,f2,f3,f4,ht⟩:=h1.cells
 cases hnm:isNm V p with
 | false=>
  have HR:=hid (Res.fail V 1000 (name V p) p (some o) m (⟨#[]⟩:ByteArray) (fun o e=>by simp[name,hnm]));go_wp2;go_ret;exact⟨_,_,_,rfl,h1.bad,s1.setR _ (by decide),HR.out⟩
 | true=>
 have hlt:=a8t hnm;have HR:=hid (Res.nameR (m:=m) (o:=o) hnm);have h2:=h1.at (q:=p+1) (by omega) (z:=(p:Int)+1) rfl;obtain⟨g,o1,rfl,htk⟩:=ht (by omega);obtain⟨t0,t1,t2⟩:=htk p hlt;clear htk ht
 have hne:g≠r:=fun e=>by
  subst e;have:=h1.ex;obtain⟨tv,ov,xs,z1,⟨⟨a,b,z2,z4⟩,z3⟩,_⟩:=this;have e1:=(cell_of z1 (j:=1)).1;rw[c1] at e1
  have e2:tv=.slice (some ⟨g,o1,none⟩) V.ts.length tc:=by simpa using e1.symm
  exact a0t (z3 g o1 _ _ e2 (by omega)) h1.rt (by decide) rfl
 have a1:(p:Int)<V.ts.length:=by omega
 have hpp:((p:Int)+1)-1=p:=by omega
 go_wp2;go_quiet (fail);go_wp2;go_ret;exact⟨_,_,_,rfl,h2.below (a0J _ _),(s1.setR _ (by decide)).below (a0J _ _),HR.out⟩
end
end Go.Proofs.YtphmpkpcamgjeaaGreatDoor
