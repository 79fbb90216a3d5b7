import Derived.Test.YtphmpkpcamgjeaaGreatDoorXAA
import Derived.Test.YtphmpkpcamgjeaaGreatDoorXBX
import Derived.Test.YtphmpkpcamgjeaaGreatDoorXBY
set_option linter.unusedVariables false
set_option linter.unusedSimpArgs false
set_option maxRecDepth 100000
set_option maxHeartbeats 16000000
namespace Go.Proofs.YtphmpkpcamgjeaaGreatDoor.Lx
open Go.ChangeShapes Go.WideShapes Go.ChangeAt Go.RowKit Go.Proofs.Tryz Go.Shelf
theorem b1A (c:ByteArray) (cs:List Int) (w:World) (hs:c.size<=1048576) (h:a2g c=some cs):Calls prog 47 #[.string c] w fun e w'=>∃ a cap,e=.returned (.tuple #[.slice a cs.length cap,.bool true])/\Below w.heap.size w w':=by
 refine(a8k c w hs).mono ?_;rintro e w' (⟨cs',v,h1,rfl,ho,hb⟩ | ⟨a,h1,_⟩)
 .rw[h] at h1;cases h1;obtain⟨a,cap,rfl⟩:=a4H ho;exact⟨a,cap,rfl,hb⟩
 rw[h] at h1;cases h1
theorem b4J (c:ByteArray) (w:World) (hs:c.size<=1048576) (h:a2g c=none):Calls prog 47 #[.string c] w fun e w'=>∃ a,e=.returned (.tuple #[.slice a 0 0,.bool false])/\Below w.heap.size w w':=by
 refine(a8k c w hs).mono ?_;rintro e w' (⟨cs',v,h1,_⟩ | ⟨a,h1,rfl,hb⟩)
 .rw[h] at h1;cases h1
 exact⟨a,rfl,hb⟩
theorem b4K (s:ByteArray) (a:Nat) (w:World) (hs:s.size<=8000) (ha:a<s.size) :
 Calls prog 21 #[.string s,.int .i64 a] w fun e w'=>e=.returned (cutT a (cutL (s.data.toList.drop a)))/\Below w.heap.size w w':=by
 have hai:(a:Int)<s.size:=by omega
 have hsl:s.data.toList.length=s.size:=by simp
 have hdl:(s.data.toList.drop a).length=s.size-a:=by rw[List.length_drop,hsl]
 have hcl:cutL (s.data.toList.drop a)=if wdI ((s[a]'ha).toNat:Int) then wordL (s.data.toList.drop a) else if digI ((s[a]'ha).toNat:Int) then numL (s.data.toList.drop a) else if s[a]'ha=34 then quoL (s.data.toList.drop a) else if s[a]'ha=39 then strL (s.data.toList.drop a) else sigL (s.data.toList.drop a):=by
  conv=>lhs;rw[drop_cons _ _ _ (a0P s a ha)]
  unfold cutL;simp only;rw[<- drop_cons _ _ _ (a0P s a ha)]
 have b8:(s.data.toList.drop a).drop 1=s.data.toList.drop (a+1):=List.drop_drop;obtain⟨r,hr⟩:∃ r,r=cutL (s.data.toList.drop a):=⟨_,rfl⟩;rw[<- hr] at hcl ⊢;clear hr;obtain⟨c0,b5⟩:∃ c0:UInt8,s[a]'ha=c0:=⟨_,rfl⟩
 have hci:((s[a]'ha).toNat:Int)=(c0.toNat:Int):=by rw[b5]
 rw[hci,b5] at hcl;have hlet:=fun w=>a0z (c0.toNat:Int) w;have hdig:=fun w=>a1S (c0.toNat:Int) w;cases hw:wdI (c0.toNat:Int)
 .rw[hw] at hlet hcl;simp only[Bool.false_eq_true,if_false] at hcl;cases hd:digI (c0.toNat:Int)
  .rw[hd] at hdig hcl;simp only[Bool.false_eq_true,if_false] at hcl;by_cases a6:c0=34
   .rw[if_pos a6] at hcl
    have b4:(c0.toNat:Int)=34:=by rw[a6];rfl
    rw[b4] at hlet hdig;have hbet:=fun w=>a5F s a 34 w (by omega) ha (by rw[b5];exact a6);unfold BetPost at hbet;have hlen:=unq_len 34 (s.data.toList.drop (a+1));unfold quoL at hcl;rw[b8] at hcl;clear hw hd a6
    cases hu:unq 34 (s.data.toList.drop (a+1)) with
    | none=>
     rw[hu] at hbet hcl;have HR:Hid (r=.err 2 0):=hcl;clear hcl hlen hu;go_enter func21,ntmps21;go_wp2_with (first | (go_at_call 40;refine ws (hlet _) ?_) | (go_at_call 43;refine ws (hdig _) ?_) | (go_at_call 45;refine(hbet _).mono ?_;rintro e w1 ⟨rfl,a0⟩;obtain⟨a2,a3⟩:=bcell a0;have a1:w.heap.size<w1.heap.size:=(by have:=a0.size;simp at this;omega);have a4:Below w.heap.size w w1:=((Below.refl _ _).alloc (Nat.le_refl _) _).trans (a0.mono (by simp));clear a0));refine bodyPost_ret (v:=.tuple #[.agg #[.int .i64 0,.string ⟨#[]⟩,.int .i64 0],.int .i64 0,.int .i64 2,.int .i64 (a:Int)]) (by simp[results,results21,go_sem,a2,a3,a1]) rfl ⟨?_,?_⟩
     .rw[HR.out];exact retV (a0M a 2 0 _ (by omega))
     exact((a4.setCell (Nat.le_refl _) _).setCell (Nat.le_refl _) _).setCell (Nat.le_refl _) _
    | some x=>
    have hl:=hlen x.1 x.2 hu;rw[List.length_drop,hsl] at hl;rw[hu] at hbet hcl;clear hlen hu;obtain⟨x1,x2⟩:=x;simp only at hbet hl hcl;obtain⟨c,hcd⟩:∃ c:ByteArray,c=⟨x1.toArray⟩:=⟨_,rfl⟩
    have b3:x1=c.data.toList:=by rw[hcd]
    rw[<- hcd] at hbet;clear hcd;subst b3
    have hcs:c.data.toList.length=c.size:=by simp
    rw[hcs] at hl hcl
    have hend:¬ (((a+1+x2:Nat):Int))<0:=by omega
    have hpr:=fun w=>a6J c w (by unfold maxLen;omega)
    have hemp:c.data.toList=[]↔c.size=0:=by rw[<- hcs,List.length_eq_zero_iff]
    obtain⟨E,hE⟩:∃ E:Int,((a+1+x2:Nat):Int)=E:=⟨_,rfl⟩;rw[hE] at hbet hend
    have HEE:Hid (E=((a+(x2+1):Nat):Int)):=by show E=_;rw[<- hE];congr 1;omega
    clear hE;by_cases e0:c.size=0
    .have HR:Hid (r=.err 2 0):=by rw[if_pos (.inl (hemp.2 e0))] at hcl;exact hcl
     have he:c.toList=[]:=by rw[Lib.toList_data];exact hemp.2 e0
     clear hcl hemp;go_enter func21,ntmps21;go_wp2_with (first | (go_at_call 40;refine ws (hlet _) ?_) | (go_at_call 43;refine ws (hdig _) ?_) | (go_at_call 45;refine(hbet _).mono ?_;rintro e w1 ⟨rfl,a0⟩;obtain⟨a2,a3⟩:=bcell a0;have a1:w.heap.size<w1.heap.size:=(by have:=a0.size;simp at this;omega);have a4:Below w.heap.size w w1:=((Below.refl _ _).alloc (Nat.le_refl _) _).trans (a0.mono (by simp));clear a0) | (go_at_call 46;refine ws (hpr _) ?_));refine bodyPost_ret (v:=.tuple #[.agg #[.int .i64 0,.string ⟨#[]⟩,.int .i64 0],.int .i64 0,.int .i64 2,.int .i64 (a:Int)]) (by simp[results,results21,go_sem,a2,a3,a1]) rfl ⟨?_,?_⟩
     .rw[HR.out];exact retV (a0M a 2 0 _ (by omega))
     exact((a4.setCell (Nat.le_refl _) _).setCell (Nat.le_refl _) _).setCell (Nat.le_refl _) _
    have hne:¬ c.data.toList=[]:=fun z=>e0 (hemp.1 z)
    have he:c.toList.isEmpty=false:=by rw[Lib.toList_data];simpa using hne
    have c2:(c.toList==[])=false:=by rw[Lib.toList_data,beq_eq_false_iff_ne];exact hne
    have hrr:=runN_le priI c.data.toList;rw[hcs] at hrr;by_cases hp:runN priI c.data.toList<c.size
    .have HR:Hid (r=.err 2 0):=by rw[if_pos (.inr hp)] at hcl;exact hcl
     have hpd:decide (runN priI c.data.toList=c.size)=false:=by simp;omega
     rw[hpd] at hpr;clear hcl hemp hne hpd;go_enter func21,ntmps21;go_wp2_with (first | (go_at_call 40;refine ws (hlet _) ?_) | (go_at_call 43;refine ws (hdig _) ?_) | (go_at_call 45;refine(hbet _).mono ?_;rintro e w1 ⟨rfl,a0⟩;obtain⟨a2,a3⟩:=bcell a0;have a1:w.heap.size<w1.heap.size:=(by have:=a0.size;simp at this;omega);have a4:Below w.heap.size w w1:=((Below.refl _ _).alloc (Nat.le_refl _) _).trans (a0.mono (by simp));clear a0) | (go_at_call 46;refine ws (hpr _) ?_));refine bodyPost_ret (v:=.tuple #[.agg #[.int .i64 0,.string ⟨#[]⟩,.int .i64 0],.int .i64 0,.int .i64 2,.int .i64 (a:Int)]) (by simp[results,results21,go_sem,a2,a3,a1]) rfl ⟨?_,?_⟩
     .rw[HR.out];exact retV (a0M a 2 0 _ (by omega))
     exact((a4.setCell (Nat.le_refl _) _).setCell (Nat.le_refl _) _).setCell (Nat.le_refl _) _
    have hpd:decide (runN priI c.data.toList=c.size)=true:=by simp;omega
    rw[hpd] at hpr;rw[if_neg (fun z=>z.elim hne hp)] at hcl;clear hemp hne hpd;by_cases h30:30<c.size
    .have HR:Hid (r=.err 5 0):=by rw[if_pos h30] at hcl;exact hcl
     clear hcl;go_enter func21,ntmps21;go_wp2_with (first | (go_at_call 40;refine ws (hlet _) ?_) | (go_at_call 43;refine ws (hdig _) ?_) | (go_at_call 45;refine(hbet _).mono ?_;rintro e w1 ⟨rfl,a0⟩;obtain⟨a2,a3⟩:=bcell a0;have a1:w.heap.size<w1.heap.size:=(by have:=a0.size;simp at this;omega);have a4:Below w.heap.size w w1:=((Below.refl _ _).alloc (Nat.le_refl _) _).trans (a0.mono (by simp));clear a0) | (go_at_call 46;refine ws (hpr _) ?_));refine bodyPost_ret (v:=.tuple #[.agg #[.int .i64 0,.string ⟨#[]⟩,.int .i64 0],.int .i64 0,.int .i64 5,.int .i64 (a:Int)]) (by simp[results,results21,go_sem,a2,a3,a1]) rfl ⟨?_,?_⟩
     .rw[HR.out];exact retV (a0M a 5 0 _ (by omega))
     exact((a4.setCell (Nat.le_refl _) _).setCell (Nat.le_refl _) _).setCell (Nat.le_refl _) _
    have HR:Hid (r=.tok 2 c.data.toList (x2+1)):=by rw[if_neg h30] at hcl;exact hcl
    clear hcl;go_enter func21,ntmps21;go_wp2_with (first | (go_at_call 40;refine ws (hlet _) ?_) | (go_at_call 43;refine ws (hdig _) ?_) | (go_at_call 45;refine(hbet _).mono ?_;rintro e w1 ⟨rfl,a0⟩;obtain⟨a2,a3⟩:=bcell a0;have a1:w.heap.size<w1.heap.size:=(by have:=a0.size;simp at this;omega);have a4:Below w.heap.size w w1:=((Below.refl _ _).alloc (Nat.le_refl _) _).trans (a0.mono (by simp));clear a0) | (go_at_call 46;refine ws (hpr _) ?_));refine bodyPost_ret (v:=.tuple #[.agg #[.int .i64 2,.string c,.int .i64 (a:Int)],.int .i64 E,.int .i64 0,.int .i64 0]) (by simp[results,results21,go_sem,a2,a3,a1]) rfl ⟨?_,?_⟩
    .rw[HR.out];exact retV (a2v a 2 c _ _ HEE.out)
    exact((a4.setCell (Nat.le_refl _) _).setCell (Nat.le_refl _) _).setCell (Nat.le_refl _) _
   have b4:((c0.toNat:Int)==34)=false:=by rw[beq_eq_false_iff_ne];exact fun z=>a6 (UInt8.toNat.inj (show c0.toNat=34 by omega))
   rw[if_neg a6] at hcl;by_cases a7:c0=39
   .rw[if_pos a7] at hcl
    have b7:(c0.toNat:Int)=39:=by rw[a7];rfl
    rw[b7] at hlet hdig;have hbet:=fun w=>a5F s a 39 w (by omega) ha (by rw[b5];exact a7);unfold BetPost at hbet;have hlen:=unq_len 39 (s.data.toList.drop (a+1));unfold strL at hcl;rw[b8] at hcl;clear hw hd a7 b4 a6
    cases hu:unq 39 (s.data.toList.drop (a+1)) with
    | none=>
     rw[hu] at hbet hcl;have HR:Hid (r=.err 2 0):=hcl;have hch:=fun w=>b1A ⟨#[]⟩ [] w (by decide) (by kernel_rfl);clear hcl hlen hu;go_enter func21,ntmps21;go_wp2_with (first | (go_at_call 40;refine ws (hlet _) ?_) | (go_at_call 43;refine ws (hdig _) ?_) | (go_at_call 45;refine(hbet _).mono ?_;rintro e w1 ⟨rfl,a0⟩;obtain⟨a2,a3⟩:=bcell a0;have a1:w.heap.size<w1.heap.size:=(by have:=a0.size;simp at this;omega);have a4:Below w.heap.size w w1:=((Below.refl _ _).alloc (Nat.le_refl _) _).trans (a0.mono (by simp));clear a0) | (go_at_call 47;refine(hch _).mono ?_;rintro e w2 ⟨ca,cc,rfl,a5⟩;obtain⟨a8,a9⟩:=bcell a5;have b0:w.heap.size<w2.heap.size:=(by have:=a5.size;omega);have b1:Below w.heap.size w w2:=a4.trans (a5.mono (Nat.le_of_lt a1));clear a5))
     refine bodyPost_ret (v:=.tuple #[.agg #[.int .i64 0,.string ⟨#[]⟩,.int .i64 0],.int .i64 0,.int .i64 2,.int .i64 (a:Int)]) (by simp[results,results21,go_sem,a2,a3,a1,a8,a9,b0]) rfl ⟨?_,?_⟩
     .rw[HR.out];exact retV (a0M a 2 0 _ (by omega))
     exact((b1.setCell (Nat.le_refl _) _).setCell (Nat.le_refl _) _).setCell (Nat.le_refl _) _
    | some x=>
    have hl:=hlen x.1 x.2 hu;rw[List.length_drop,hsl] at hl;rw[hu] at hbet hcl;clear hlen hu;obtain⟨x1,x2⟩:=x;simp only at hbet hl hcl;obtain⟨c,hcd⟩:∃ c:ByteArray,c=⟨x1.toArray⟩:=⟨_,rfl⟩
    have b3:x1=c.data.toList:=by rw[hcd]
    rw[<- hcd] at hbet hcl;clear hcd;subst b3
    have hcs:c.data.toList.length=c.size:=by simp
    rw[hcs] at hl
    have hend:¬ (((a+1+x2:Nat):Int))<0:=by omega
    obtain⟨E,hE⟩:∃ E:Int,((a+1+x2:Nat):Int)=E:=⟨_,rfl⟩;rw[hE] at hbet hend
    have HEE:Hid (E=((a+(x2+1):Nat):Int)):=by show E=_;rw[<- hE];congr 1;omega
    clear hE
    cases hcc:a2g c with
    | none=>
     rw[hcc] at hcl;have HR:Hid (r=.err 2 0):=hcl;have hch:=fun w=>b4J c w (by omega) hcc;clear hcl hcc;go_enter func21,ntmps21;go_wp2_with (first | (go_at_call 40;refine ws (hlet _) ?_) | (go_at_call 43;refine ws (hdig _) ?_) | (go_at_call 45;refine(hbet _).mono ?_;rintro e w1 ⟨rfl,a0⟩;obtain⟨a2,a3⟩:=bcell a0;have a1:w.heap.size<w1.heap.size:=(by have:=a0.size;simp at this;omega);have a4:Below w.heap.size w w1:=((Below.refl _ _).alloc (Nat.le_refl _) _).trans (a0.mono (by simp));clear a0) | (go_at_call 47;refine(hch _).mono ?_;rintro e w2 ⟨ca,rfl,a5⟩;obtain⟨a8,a9⟩:=bcell a5;have b0:w.heap.size<w2.heap.size:=(by have:=a5.size;omega);have b1:Below w.heap.size w w2:=a4.trans (a5.mono (Nat.le_of_lt a1));clear a5))
     refine bodyPost_ret (v:=.tuple #[.agg #[.int .i64 0,.string ⟨#[]⟩,.int .i64 0],.int .i64 0,.int .i64 2,.int .i64 (a:Int)]) (by simp[results,results21,go_sem,a2,a3,a1,a8,a9,b0]) rfl ⟨?_,?_⟩
     .rw[HR.out];exact retV (a0M a 2 0 _ (by omega))
     exact((b1.setCell (Nat.le_refl _) _).setCell (Nat.le_refl _) _).setCell (Nat.le_refl _) _
    | some cs=>
    rw[hcc] at hcl;simp only at hcl;have hch:=fun w=>b1A c cs w (by omega) hcc;have hcnt:=(count_eq c cs hcc).2.2;clear hcc;generalize cs.length=m at *;by_cases h255:255<m
    .have HR:Hid (r=.err 5 0):=by rw[if_pos h255] at hcl;exact hcl
     have hmi:(255:Int)<m:=by omega
     clear hcl;go_enter func21,ntmps21;go_wp2_with (first | (go_at_call 40;refine ws (hlet _) ?_) | (go_at_call 43;refine ws (hdig _) ?_) | (go_at_call 45;refine(hbet _).mono ?_;rintro e w1 ⟨rfl,a0⟩;obtain⟨a2,a3⟩:=bcell a0;have a1:w.heap.size<w1.heap.size:=(by have:=a0.size;simp at this;omega);have a4:Below w.heap.size w w1:=((Below.refl _ _).alloc (Nat.le_refl _) _).trans (a0.mono (by simp));clear a0) | (go_at_call 47;refine(hch _).mono ?_;rintro e w2 ⟨ca,cc,rfl,a5⟩;obtain⟨a8,a9⟩:=bcell a5;have b0:w.heap.size<w2.heap.size:=(by have:=a5.size;omega);have b1:Below w.heap.size w w2:=a4.trans (a5.mono (Nat.le_of_lt a1));clear a5))
     refine bodyPost_ret (v:=.tuple #[.agg #[.int .i64 0,.string ⟨#[]⟩,.int .i64 0],.int .i64 0,.int .i64 5,.int .i64 (a:Int)]) (by simp[results,results21,go_sem,a2,a3,a1,a8,a9,b0]) rfl ⟨?_,?_⟩
     .rw[HR.out];exact retV (a0M a 5 0 _ (by omega))
     exact((b1.setCell (Nat.le_refl _) _).setCell (Nat.le_refl _) _).setCell (Nat.le_refl _) _
    have HR:Hid (r=.tok 5 c.data.toList (x2+1)):=by rw[if_neg h255] at hcl;exact hcl
    have hmi:¬ (255:Int)<m:=by omega
    clear hcl;go_enter func21,ntmps21;go_wp2_with (first | (go_at_call 40;refine ws (hlet _) ?_) | (go_at_call 43;refine ws (hdig _) ?_) | (go_at_call 45;refine(hbet _).mono ?_;rintro e w1 ⟨rfl,a0⟩;obtain⟨a2,a3⟩:=bcell a0;have a1:w.heap.size<w1.heap.size:=(by have:=a0.size;simp at this;omega);have a4:Below w.heap.size w w1:=((Below.refl _ _).alloc (Nat.le_refl _) _).trans (a0.mono (by simp));clear a0) | (go_at_call 47;refine(hch _).mono ?_;rintro e w2 ⟨ca,cc,rfl,a5⟩;obtain⟨a8,a9⟩:=bcell a5;have b0:w.heap.size<w2.heap.size:=(by have:=a5.size;omega);have b1:Below w.heap.size w w2:=a4.trans (a5.mono (Nat.le_of_lt a1));clear a5))
    refine bodyPost_ret (v:=.tuple #[.agg #[.int .i64 5,.string c,.int .i64 (a:Int)],.int .i64 E,.int .i64 0,.int .i64 0]) (by simp[results,results21,go_sem,a2,a3,a1,a8,a9,b0]) rfl ⟨?_,?_⟩
    .rw[HR.out];exact retV (a2v a 5 c _ _ HEE.out)
    exact((b1.setCell (Nat.le_refl _) _).setCell (Nat.le_refl _) _).setCell (Nat.le_refl _) _
   have b7:((c0.toNat:Int)==39)=false:=by rw[beq_eq_false_iff_ne];exact fun z=>a7 (UInt8.toNat.inj (show c0.toNat=39 by omega))
   rw[if_neg a7] at hcl;have hsig:=fun w=>b2k s a w (by omega) (by omega);unfold sigL at hcl;clear hw hd a6 a7
   cases hu:a4Y (s.data.toList.drop a) with
   | none=>
    rw[hu] at hsig hcl;have HR:Hid (r=.err 2 0):=hcl;clear hcl hu;simp only[Option.getD_none] at hsig;go_enter func21,ntmps21;go_wp2_with (first | (go_at_call 40;refine ws (hlet _) ?_) | (go_at_call 43;refine ws (hdig _) ?_) | (go_at_call 48;refine(hsig _).mono ?_;rintro e w1 ⟨rfl,a0⟩;obtain⟨a2,a3⟩:=bcell a0;have a1:w.heap.size<w1.heap.size:=(by have:=a0.size;simp at this;omega);have a4:Below w.heap.size w w1:=((Below.refl _ _).alloc (Nat.le_refl _) _).trans (a0.mono (by simp));clear a0));refine bodyPost_ret (v:=.tuple #[.agg #[.int .i64 0,.string ⟨#[]⟩,.int .i64 0],.int .i64 0,.int .i64 2,.int .i64 (a:Int)]) (by simp[results,results21,go_sem,a2,a3,a1]) rfl ⟨?_,?_⟩
    .rw[HR.out];exact retV (a0M a 2 0 _ (by omega))
    exact((a4.setCell (Nat.le_refl _) _).setCell (Nat.le_refl _) _).setCell (Nat.le_refl _) _
   | some x1=>
   have hxl:=sigAt_len hu;rw[hdl] at hxl;rw[hu] at hsig hcl;simp only[Option.getD_some] at hsig hcl;clear hu;obtain⟨c,hcd⟩:∃ c:ByteArray,c=⟨x1.toArray⟩:=⟨_,rfl⟩
   have b3:x1=c.data.toList:=by rw[hcd]
   rw[<- hcd] at hsig;clear hcd;subst b3
   have hcs:c.data.toList.length=c.size:=by simp
   rw[hcs] at hxl hcl
   have hne:¬ c.data.toList=[]:=fun z=>by rw[z] at hcs;simp at hcs;omega
   have he:c.toList.isEmpty=false:=by rw[Lib.toList_data];simpa using hne
   have c2:(c.toList==[])=false:=by rw[Lib.toList_data,beq_eq_false_iff_ne];exact hne
   by_cases b2:c=⟨#[33,61]⟩
   .have HR:Hid (r=.tok 6 [60,62] 2):=by rw[b2] at hcl;exact hcl
    have b9:(c.toList==[33,61])=true:=by rw[Lib.toList_data,beq_iff_eq,b2]
    have hsz:(c.size:Int)=2:=by rw[b2];rfl
    clear hcl hne b2;go_enter func21,ntmps21;go_wp2_with (first | (go_at_call 40;refine ws (hlet _) ?_) | (go_at_call 43;refine ws (hdig _) ?_) | (go_at_call 48;refine(hsig _).mono ?_;rintro e w1 ⟨rfl,a0⟩;obtain⟨a2,a3⟩:=bcell a0;have a1:w.heap.size<w1.heap.size:=(by have:=a0.size;simp at this;omega);have a4:Below w.heap.size w w1:=((Below.refl _ _).alloc (Nat.le_refl _) _).trans (a0.mono (by simp));clear a0));refine bodyPost_ret (v:=.tuple #[.agg #[.int .i64 6,.string ⟨#[60,62]⟩,.int .i64 (a:Int)],.int .i64 ((a:Int)+2),.int .i64 0,.int .i64 0]) (by simp[results,results21,go_sem,a2,a3,a1]) rfl ⟨?_,?_⟩
    .rw[HR.out];exact retV (a2v a 6 ⟨#[60,62]⟩ 2 _ (by omega))
    exact(((a4.setCell (Nat.le_refl _) _).setCell (Nat.le_refl _) _).setCell (Nat.le_refl _) _).alloc (by simp;omega) _
   have b9:(c.toList==[33,61])=false:=by rw[Lib.toList_data,beq_eq_false_iff_ne];intro z;exact b2 (a4S z)
   have HR:Hid (r=.tok 6 c.data.toList c.size):=by rw[if_neg (fun z=>b2 (a4S z))] at hcl;exact hcl
   clear hcl hne b2;go_enter func21,ntmps21;go_wp2_with (first | (go_at_call 40;refine ws (hlet _) ?_) | (go_at_call 43;refine ws (hdig _) ?_) | (go_at_call 48;refine(hsig _).mono ?_;rintro e w1 ⟨rfl,a0⟩;obtain⟨a2,a3⟩:=bcell a0;have a1:w.heap.size<w1.heap.size:=(by have:=a0.size;simp at this;omega);have a4:Below w.heap.size w w1:=((Below.refl _ _).alloc (Nat.le_refl _) _).trans (a0.mono (by simp));clear a0));refine bodyPost_ret (v:=.tuple #[.agg #[.int .i64 6,.string c,.int .i64 (a:Int)],.int .i64 ((a:Int)+c.size),.int .i64 0,.int .i64 0]) (by simp[results,results21,go_sem,a2,a3,a1]) rfl ⟨?_,?_⟩
   .rw[HR.out];exact retV (a2v a 6 c c.size _ (by omega))
   exact(((a4.setCell (Nat.le_refl _) _).setCell (Nat.le_refl _) _).setCell (Nat.le_refl _) _).alloc (by simp;omega) _
  rw[hd] at hdig hcl;simp only[if_true] at hcl;have hnum:=fun w=>number_any s a w hs ha (by rw[hci];exact hd);have hns:=@cut_size (s.data.toList.drop a);have HR:Hid (r=numL (s.data.toList.drop a)):=hcl;clear hw hd hcl
  cases hnl:numL (s.data.toList.drop a) with
  | err c f=>
   rw[hnl] at hnum;have b6:Hid (r=.err c f):=HR.out.trans hnl;clear hnl HR;simp only[cutT] at hnum;go_enter func21,ntmps21;go_wp2_with (first | (go_at_call 40;refine ws (hlet _) ?_) | (go_at_call 43;refine ws (hdig _) ?_) | (go_at_call 44;refine(hnum _).mono ?_;rintro e w1 ⟨rfl,a0⟩;obtain⟨a2,a3⟩:=bcell a0;have a1:w.heap.size<w1.heap.size:=(by have:=a0.size;simp at this;omega);have a4:Below w.heap.size w w1:=((Below.refl _ _).alloc (Nat.le_refl _) _).trans (a0.mono (by simp));clear a0));refine bodyPost_ret (v:=.tuple #[.agg #[.int .i64 0,.string ⟨#[]⟩,.int .i64 0],.int .i64 0,.int .i64 c,.int .i64 ((a+f:Nat):Int)]) (by simp[results,results21,go_sem,a2,a3,a1]) rfl ⟨?_,?_⟩
   .rw[b6.out];rfl
   exact((a4.setCell (Nat.le_refl _) _).setCell (Nat.le_refl _) _).setCell (Nat.le_refl _) _
  | tok k x n=>
  rw[hnl] at hnum;have b6:Hid (r=.tok k x n):=HR.out.trans hnl;clear hnl HR;simp only[cutT] at hnum;go_enter func21,ntmps21;go_wp2_with (first | (go_at_call 40;refine ws (hlet _) ?_) | (go_at_call 43;refine ws (hdig _) ?_) | (go_at_call 44;refine(hnum _).mono ?_;rintro e w1 ⟨rfl,a0⟩;obtain⟨a2,a3⟩:=bcell a0;have a1:w.heap.size<w1.heap.size:=(by have:=a0.size;simp at this;omega);have a4:Below w.heap.size w w1:=((Below.refl _ _).alloc (Nat.le_refl _) _).trans (a0.mono (by simp));clear a0));refine bodyPost_ret (v:=.tuple #[.agg #[.int .i64 k,.string ⟨x.toArray⟩,.int .i64 (a:Int)],.int .i64 ((a+n:Nat):Int),.int .i64 0,.int .i64 0]) (by simp[results,results21,go_sem,a2,a3,a1]) rfl ⟨?_,?_⟩
  .rw[b6.out];rfl
  exact((a4.setCell (Nat.le_refl _) _).setCell (Nat.le_refl _) _).setCell (Nat.le_refl _) _
 rw[hw] at hlet hcl;simp only[if_true] at hcl;have hrun:=fun w=>run_any s a true w (by unfold maxLen;omega) (by omega);simp only[if_true] at hrun;have hrl:=runN_le goI (s.data.toList.drop a);rw[hdl] at hrl;unfold wordL at hcl
 have HT:Hid (((s.data.toList.drop a).take (runN goI (s.data.toList.drop a)))=(s.extract a (a+runN goI (s.data.toList.drop a))).data.toList):=by
  show _=_
  rw[a7N,Nat.add_sub_cancel_left]
 clear hw;generalize runN goI (s.data.toList.drop a)=n at *;by_cases h30:30<n
 .have HR:Hid (r=.err 5 0):=by rw[if_pos h30] at hcl;exact hcl
  have c1:(30:Int)<n:=by omega
  clear hcl;go_enter func21,ntmps21;go_wp2_with (first | (go_at_call 40;refine ws (hlet _) ?_) | (go_at_call 43;refine ws (hdig _) ?_) | (go_at_call 41;refine ws (hrun _) ?_));refine bodyPost_ret (v:=.tuple #[.agg #[.int .i64 0,.string ⟨#[]⟩,.int .i64 0],.int .i64 0,.int .i64 5,.int .i64 (a:Int)]) (by simp[results,results21,go_sem]) rfl ⟨?_,?_⟩
  .rw[HR.out];exact retV (a0M a 5 0 _ (by omega))
  exact(Below.refl _ _).alloc (Nat.le_refl _) _
 have c1:¬ (30:Int)<n:=by omega
 rw[if_neg h30] at hcl;have hcase:=fun w=>b6i (s.extract a (a+n)) w (by simp;omega);rw[<- HT.out] at hcase;obtain⟨t,ht⟩:∃ t:ByteArray,t=⟨(((s.data.toList.drop a).take n).map lowC).toArray⟩:=⟨_,rfl⟩;rw[<- ht] at hcase
 have HR:Hid (r=.tok 1 t.data.toList n):=by show r=_;rw[hcl,ht]
 clear hcl ht HT;go_enter func21,ntmps21;go_wp2_with (first | (go_at_call 40;refine ws (hlet _) ?_) | (go_at_call 43;refine ws (hdig _) ?_) | (go_at_call 41;refine ws (hrun _) ?_) | (go_at_call 42;refine(hcase _).mono ?_;rintro e w1 ⟨rfl,a0⟩;obtain⟨a2,a3⟩:=bcell a0;have a1:w.heap.size<w1.heap.size:=(by have:=a0.size;simp at this;omega);have a4:Below w.heap.size w w1:=((Below.refl _ _).alloc (Nat.le_refl _) _).trans (a0.mono (by simp));clear a0));refine bodyPost_ret (v:=.tuple #[.agg #[.int .i64 1,.string t,.int .i64 (a:Int)],.int .i64 ((a:Int)+n),.int .i64 0,.int .i64 0]) (by simp[results,results21,go_sem,a2,a3,a1]) rfl ⟨?_,?_⟩
 .rw[HR.out];exact retV (a2v a 1 t n _ (by omega))
 exact((a4.setCell (Nat.le_refl _) _).setCell (Nat.le_refl _) _).setCell (Nat.le_refl _) _
end Go.Proofs.YtphmpkpcamgjeaaGreatDoor.Lx
