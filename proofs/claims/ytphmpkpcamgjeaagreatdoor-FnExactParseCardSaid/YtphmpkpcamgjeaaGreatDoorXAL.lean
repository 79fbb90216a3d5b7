import Derived.Test.YtphmpkpcamgjeaaGreatDoorXAK
import Derived.StringKeys
import Derived.Test.YtphmpkpcamgjeaaGreatDoorXAA
set_option linter.unusedVariables false
set_option linter.unusedSimpArgs false
set_option maxRecDepth 100000
set_option maxHeartbeats 16000000
namespace Go.Proofs.YtphmpkpcamgjeaaGreatDoor.Lx
open Go.ChangeShapes Go.WideShapes Go.ChangeAt Go.RowKit Go.Proofs.Tryz Go.Shelf Go.Maps
theorem a9F (s:ByteArray) (w:World) (hl:s.toList=[108,105,107,101]):Calls prog 90 #[.string s] w fun e w'=>e=.returned (.bool true)/\w'=w:=by
 go_enter func90,ntmps90;go_wp2;go_ret;exact⟨rfl,rfl⟩
theorem a9G (s:ByteArray) (w:World) (hl:s.toList=[108,105,109,105,116]):Calls prog 90 #[.string s] w fun e w'=>e=.returned (.bool true)/\w'=w:=by
 go_enter func90,ntmps90;go_wp2;go_ret;exact⟨rfl,rfl⟩
theorem a9H (s:ByteArray) (w:World) (hl:s.toList=[109,97,120]):Calls prog 90 #[.string s] w fun e w'=>e=.returned (.bool true)/\w'=w:=by
 go_enter func90,ntmps90;go_wp2;go_ret;exact⟨rfl,rfl⟩
theorem a9I (s:ByteArray) (w:World) (hl:s.toList=[109,105,110]):Calls prog 90 #[.string s] w fun e w'=>e=.returned (.bool true)/\w'=w:=by
 go_enter func90,ntmps90;go_wp2;go_ret;exact⟨rfl,rfl⟩
theorem a9J (s:ByteArray) (w:World) (hl:s.toList=[110,111,116]):Calls prog 90 #[.string s] w fun e w'=>e=.returned (.bool true)/\w'=w:=by
 go_enter func90,ntmps90;go_wp2;go_ret;exact⟨rfl,rfl⟩
theorem a9K (s:ByteArray) (w:World) (hl:s.toList=[110,117,108,108]):Calls prog 90 #[.string s] w fun e w'=>e=.returned (.bool true)/\w'=w:=by
 go_enter func90,ntmps90;go_wp2;go_ret;exact⟨rfl,rfl⟩
theorem a9L (s:ByteArray) (w:World) (hl:s.toList=[110,117,108,108,115]):Calls prog 90 #[.string s] w fun e w'=>e=.returned (.bool true)/\w'=w:=by
 go_enter func90,ntmps90;go_wp2;go_ret;exact⟨rfl,rfl⟩
theorem a9M (s:ByteArray) (w:World) (hl:s.toList=[111,102,102,115,101,116]):Calls prog 90 #[.string s] w fun e w'=>e=.returned (.bool true)/\w'=w:=by
 go_enter func90,ntmps90;go_wp2;go_ret;exact⟨rfl,rfl⟩
theorem a9N (s:ByteArray) (w:World) (hl:s.toList=[111,110]):Calls prog 90 #[.string s] w fun e w'=>e=.returned (.bool true)/\w'=w:=by
 go_enter func90,ntmps90;go_wp2;go_ret;exact⟨rfl,rfl⟩
theorem a9O (s:ByteArray) (w:World) (hl:s.toList=[111,114]):Calls prog 90 #[.string s] w fun e w'=>e=.returned (.bool true)/\w'=w:=by
 go_enter func90,ntmps90;go_wp2;go_ret;exact⟨rfl,rfl⟩
theorem a9P (s:ByteArray) (w:World) (hl:s.toList=[111,114,100,101,114]):Calls prog 90 #[.string s] w fun e w'=>e=.returned (.bool true)/\w'=w:=by
 go_enter func90,ntmps90;go_wp2;go_ret;exact⟨rfl,rfl⟩
theorem a9Q (s:ByteArray) (w:World) (hl:s.toList=[111,117,116,101,114]):Calls prog 90 #[.string s] w fun e w'=>e=.returned (.bool true)/\w'=w:=by
 go_enter func90,ntmps90;go_wp2;go_ret;exact⟨rfl,rfl⟩
theorem a9R (s:ByteArray) (w:World) (hl:s.toList=[112,114,105,109,97,114,121]):Calls prog 90 #[.string s] w fun e w'=>e=.returned (.bool true)/\w'=w:=by
 go_enter func90,ntmps90;go_wp2;go_ret;exact⟨rfl,rfl⟩
theorem a9S (s:ByteArray) (w:World) (hl:s.toList=[114,101,108,101,97,115,101]):Calls prog 90 #[.string s] w fun e w'=>e=.returned (.bool true)/\w'=w:=by
 go_enter func90,ntmps90;go_wp2;go_ret;exact⟨rfl,rfl⟩
theorem a9T (s:ByteArray) (w:World) (hl:s.toList=[114,111,108,108,98,97,99,107]):Calls prog 90 #[.string s] w fun e w'=>e=.returned (.bool true)/\w'=w:=by
 go_enter func90,ntmps90;go_wp2;go_ret;exact⟨rfl,rfl⟩
theorem a9U (s:ByteArray) (w:World) (hl:s.toList=[115,97,118,101,112,111,105,110,116]):Calls prog 90 #[.string s] w fun e w'=>e=.returned (.bool true)/\w'=w:=by
 go_enter func90,ntmps90;go_wp2;go_ret;exact⟨rfl,rfl⟩
theorem a9V (s:ByteArray) (w:World) (hl:s.toList=[115,101,108,101,99,116]):Calls prog 90 #[.string s] w fun e w'=>e=.returned (.bool true)/\w'=w:=by
 go_enter func90,ntmps90;go_wp2;go_ret;exact⟨rfl,rfl⟩
theorem a9W (s:ByteArray) (w:World) (hl:s.toList=[115,101,114,105,97,108,105,122,97,98,108,101]):Calls prog 90 #[.string s] w fun e w'=>e=.returned (.bool true)/\w'=w:=by
 go_enter func90,ntmps90;go_wp2;go_ret;exact⟨rfl,rfl⟩
theorem a9X (s:ByteArray) (w:World) (hl:s.toList=[115,101,116]):Calls prog 90 #[.string s] w fun e w'=>e=.returned (.bool true)/\w'=w:=by
 go_enter func90,ntmps90;go_wp2;go_ret;exact⟨rfl,rfl⟩
theorem a9Y (s:ByteArray) (w:World) (hl:s.toList=[115,110,97,112,115,104,111,116]):Calls prog 90 #[.string s] w fun e w'=>e=.returned (.bool true)/\w'=w:=by
 go_enter func90,ntmps90;go_wp2;go_ret;exact⟨rfl,rfl⟩
theorem a9Z (s:ByteArray) (w:World) (hl:s.toList=[115,117,109]):Calls prog 90 #[.string s] w fun e w'=>e=.returned (.bool true)/\w'=w:=by
 go_enter func90,ntmps90;go_wp2;go_ret;exact⟨rfl,rfl⟩
theorem b0a (s:ByteArray) (w:World) (hl:s.toList=[116,97,98,108,101]):Calls prog 90 #[.string s] w fun e w'=>e=.returned (.bool true)/\w'=w:=by
 go_enter func90,ntmps90;go_wp2;go_ret;exact⟨rfl,rfl⟩
theorem b0b (s:ByteArray) (w:World) (hl:s.toList=[116,101,120,116]):Calls prog 90 #[.string s] w fun e w'=>e=.returned (.bool true)/\w'=w:=by
 go_enter func90,ntmps90;go_wp2;go_ret;exact⟨rfl,rfl⟩
theorem b0c (s:ByteArray) (w:World) (hl:s.toList=[116,104,101,110]):Calls prog 90 #[.string s] w fun e w'=>e=.returned (.bool true)/\w'=w:=by
 go_enter func90,ntmps90;go_wp2;go_ret;exact⟨rfl,rfl⟩
theorem b0d (s:ByteArray) (w:World) (hl:s.toList=[116,111]):Calls prog 90 #[.string s] w fun e w'=>e=.returned (.bool true)/\w'=w:=by
 go_enter func90,ntmps90;go_wp2;go_ret;exact⟨rfl,rfl⟩
theorem b0e (s:ByteArray) (w:World) (hl:s.toList=[116,114,117,101]):Calls prog 90 #[.string s] w fun e w'=>e=.returned (.bool true)/\w'=w:=by
 go_enter func90,ntmps90;go_wp2;go_ret;exact⟨rfl,rfl⟩
theorem b0f (s:ByteArray) (w:World) (hl:s.toList=[117,110,105,111,110]):Calls prog 90 #[.string s] w fun e w'=>e=.returned (.bool true)/\w'=w:=by
 go_enter func90,ntmps90;go_wp2;go_ret;exact⟨rfl,rfl⟩
theorem b0g (s:ByteArray) (w:World) (hl:s.toList=[117,110,105,113,117,101]):Calls prog 90 #[.string s] w fun e w'=>e=.returned (.bool true)/\w'=w:=by
 go_enter func90,ntmps90;go_wp2;go_ret;exact⟨rfl,rfl⟩
theorem b0h (s:ByteArray) (w:World) (hl:s.toList=[117,112,100,97,116,101]):Calls prog 90 #[.string s] w fun e w'=>e=.returned (.bool true)/\w'=w:=by
 go_enter func90,ntmps90;go_wp2;go_ret;exact⟨rfl,rfl⟩
theorem b0i (s:ByteArray) (w:World) (hl:s.toList=[118,97,108,117,101,115]):Calls prog 90 #[.string s] w fun e w'=>e=.returned (.bool true)/\w'=w:=by
 go_enter func90,ntmps90;go_wp2;go_ret;exact⟨rfl,rfl⟩
theorem b0j (s:ByteArray) (w:World) (hl:s.toList=[119,104,101,110]):Calls prog 90 #[.string s] w fun e w'=>e=.returned (.bool true)/\w'=w:=by
 go_enter func90,ntmps90;go_wp2;go_ret;exact⟨rfl,rfl⟩
theorem b0k (s:ByteArray) (w:World) (hl:s.toList=[119,104,101,114,101]):Calls prog 90 #[.string s] w fun e w'=>e=.returned (.bool true)/\w'=w:=by
 go_enter func90,ntmps90;go_wp2;go_ret;exact⟨rfl,rfl⟩
end Go.Proofs.YtphmpkpcamgjeaaGreatDoor.Lx
namespace Go.Proofs.YtphmpkpcamgjeaaGreatDoor.Lx
open Go.ChangeShapes Go.WideShapes Go.ChangeAt Go.RowKit Go.Proofs.Tryz Go.Shelf Go.Maps
theorem spec_reserved (s:ByteArray) (w:World) :
 Calls prog 90 #[.string s] w fun e w'=>e=.returned (.bool (resWords.contains s.data.toList))/\w'=w:=by
 cases h:resWords.contains s.data.toList
 .exact a5a s w h
 rw[List.contains_iff_mem] at h;unfold resWords at h;simp only[List.mem_cons,List.not_mem_nil,or_false] at h;rw[<- Lib.toList_data] at h;rcases h with h | h | h | h | h | h | h | h | h | h | h | h | h | h | h | h | h | h | h | h | h | h | h | h | h | h | h | h | h | h | h | h | h | h | h | h | h | h | h | h | h | h | h | h | h | h | h | h | h | h | h | h | h | h | h | h | h | h | h | h | h | h | h | h | h | h | h | h | h | h | h | h | h | h | h | h | h
 .exact b2o s w h
 .exact b2p s w h
 .exact b2q s w h
 .exact b2r s w h
 .exact b2s s w h
 .exact b2t s w h
 .exact b2u s w h
 .exact b2v s w h
 .exact b2w s w h
 .exact b2x s w h
 .exact a8W s w h
 .exact a8X s w h
 .exact a8Y s w h
 .exact a8Z s w h
 .exact a9a s w h
 .exact a9b s w h
 .exact a9c s w h
 .exact a9d s w h
 .exact a9e s w h
 .exact a9f s w h
 .exact a9g s w h
 .exact a9h s w h
 .exact a9i s w h
 .exact a9j s w h
 .exact a9k s w h
 .exact a9l s w h
 .exact a9m s w h
 .exact a9n s w h
 .exact a9o s w h
 .exact a9p s w h
 .exact a9q s w h
 .exact a9r s w h
 .exact a9s s w h
 .exact a9t s w h
 .exact a9u s w h
 .exact a9v s w h
 .exact a9w s w h
 .exact a9x s w h
 .exact a9y s w h
 .exact a9z s w h
 .exact a9A s w h
 .exact a9B s w h
 .exact a9C s w h
 .exact a9D s w h
 .exact a9E s w h
 .exact a9F s w h
 .exact a9G s w h
 .exact a9H s w h
 .exact a9I s w h
 .exact a9J s w h
 .exact a9K s w h
 .exact a9L s w h
 .exact a9M s w h
 .exact a9N s w h
 .exact a9O s w h
 .exact a9P s w h
 .exact a9Q s w h
 .exact a9R s w h
 .exact a9S s w h
 .exact a9T s w h
 .exact a9U s w h
 .exact a9V s w h
 .exact a9W s w h
 .exact a9X s w h
 .exact a9Y s w h
 .exact a9Z s w h
 .exact b0a s w h
 .exact b0b s w h
 .exact b0c s w h
 .exact b0d s w h
 .exact b0e s w h
 .exact b0f s w h
 .exact b0g s w h
 .exact b0h s w h
 .exact b0i s w h
 .exact b0j s w h
 exact b0k s w h
end Go.Proofs.YtphmpkpcamgjeaaGreatDoor.Lx
namespace Go.Proofs.YtphmpkpcamgjeaaGreatDoor.Lx
open Go.ChangeShapes Go.WideShapes Go.ChangeAt Go.RowKit Go.Proofs.Tryz Go.Shelf Go.Maps
theorem law9:Keyed prog 9:=string_keyed underlying9
def resD (k:Nat):DataW Unit:=setOf (.agg []) ((resWords.take k).map Lit.string)
def Wd (w:World) (B:Nat):Prop:=∀ j,j<77->w.cell? ⟨B,j,none⟩=some (.string (resB.getD j ⟨#[]⟩))
theorem b3U (j:Nat) (h:j<77):(resB.getD j ⟨#[]⟩).data.toList=resWords.getD j []/\resWords.take (j+1)=resWords.take j++[resWords.getD j []]:=by
 have hl:j<resWords.length:=h;refine⟨?_,?_⟩
 .unfold resB;simp[List.getD,List.getElem?_eq_getElem hl]
 rw[List.take_add_one];simp[List.getD,List.getElem?_eq_getElem hl]
theorem b9c (w:World):Wd (w.alloc (.cells (resB.map Value.string).toArray 9)) w.heap.size:=by
 intro j hj;have hl:j<resB.length:=hj;simp only[World.cell?];rw[heap_alloc_new];simp[List.getD,List.getElem?_eq_getElem hl]
theorem b3V (k:Nat) (h:k<77):resD (k+1)=(resD k).put (.string (resB.getD k ⟨#[]⟩).data.toList) (.agg []):=by
 unfold resD;rw[(b3U k h).2,List.map_append,List.map_cons,List.map_nil,setOf_snoc,(b3U k h).1]
theorem b3W (j:Nat):(resB.getD j ⟨#[]⟩).size<=20:=by
 have h:resB.all (fun b=>decide (b.size<=20))=true:=by kernel_rfl
 rcases Nat.lt_or_ge j resB.length with g | g
 .rw[List.getD,List.getElem?_eq_getElem g];have:=List.all_eq_true.1 h _ (List.getElem_mem g);simpa using this
 rw[List.getD,List.getElem?_eq_none g];decide
theorem a8V (w:World):(Instr.makeMap 61 (some (.int .i64 77))).run prog w=.ok (.map (some w.heap.size)) (w.alloc (.map #[] 0)):=by
 simp[Instr.makeMap,run_underlying underlying61,asInt,asIntOf,Result.andThen]
theorem b5O {w:World} {B:Nat} (h:Wd w B) (hB:B<w.heap.size) (o:Obj):Wd (w.alloc o) B:=by
 intro j hj;exact((below_alloc w o).cell (p:=⟨B,j,none⟩) hB).trans (h j hj)
theorem reservedWords_any (m:Int) (w:World) (hm:w.cell? ⟨3,0,none⟩=some (.int .i64 m)) :
 Calls prog 31 #[] w fun e w'=>e=.returned (.map (some (w.heap.size+1)))/\w'.ownsMap prog 9 (unitElem (H:=Unit)) (w.heap.size+1) 77 (resD 77)/\Below w.heap.size w w':=by
 have hmm:=a8V;go_enter func31,ntmps31;go_wp2_with (go_at_call 67;refine(b3T _ (by kernel_rfl) m _ hm).mono ?_;rintro e w' ⟨rfl,rfl⟩);go_loopw [11] (fun i wr=>∃ k:Nat,k<=77/\i=.int .i64 k/\wr.ownsMap prog 9 (unitElem (H:=Unit)) (w.heap.size+1) k (resD k)/\Hid (Wd wr w.heap.size)/\Below w.heap.size w wr/\w.heap.size+2<=wr.heap.size) (fun i _=>77-(intOf i).toNat)
 case atStart=>
  have hmade:=World.ownsMap_made (w.alloc (.cells (resB.map Value.string).toArray 9)) prog 9 (unitElem (H:=Unit));simp at hmade;refine⟨0,Nat.zero_le _,rfl,hmade,?_,((Below.refl _ _).alloc (Nat.le_refl _) _).alloc (by simp) _,by simp⟩
  show Wd _ _
  exact b5O (b9c w) (by simp) _
 case round=>
 obtain⟨k,hk,rfl,hown,HW,hnx,hws⟩:=hrel;by_cases hlt:k<77
 .have hck:=HW.out k hlt;have hsm:=b3W k;have HD:=b3V k hlt;obtain⟨g,hg⟩:∃ g:ByteArray,resB.getD k ⟨#[]⟩=g:=⟨_,rfl⟩;rw[hg] at hck hsm HD;have HD':Hid (resD (k+1)=(resD k).put (.string g.data.toList) (.agg [])):=HD;clear HD hg;have hkey:keyOf prog 9 (.string g)=some (.string g.data.toList):=Go.WideMaps.keyOf_string_mk underlying9 (by unfold maxLen;omega);go_wp2_with (at_mapUpdate;refine wpList_mapUpdate_own _ rfl _ _ _ 61 rfl 9 93 law9 underlying61 (unitElem (H:=Unit)) (w.heap.size+1) k _ rfl hown (by unfold maxLen;omega) _ _ _ rfl rfl hkey _ [] unitElem_mk ?_;intro w1 a1 a0);have a3:=a0.size;go_roundw
  case rel=>
   refine⟨k+1,by omega,by go_num,by rw[HD'.out];exact a1,?_,hnx.grown a0 hnx.size (fun j hj=>by cases hj;omega),by omega⟩;intro j hj;rw[World.cell?_of_block (a:=⟨w.heap.size,j,none⟩) (a0.block w.heap.size (by omega) (fun z=>by have:=Option.some.inj z;omega))];exact HW.out j hj
  case measure=>simp[intOf];omega
 have a2:k=77:=by omega
 subst a2;go_wp2;go_ret;exact⟨rfl,hown,hnx⟩
def isRes (l:List UInt8):Bool:=resWords.contains l
theorem b5P (k:Nat):∀ x∈(resWords.take k).map Lit.string,WideAt.IsKeyLit x:=by
 intro x hx;obtain⟨l,_,rfl⟩:=List.mem_map.1 hx;trivial
theorem has_res (s:ByteArray):Maps.has (resD 77) (.string s.data.toList)=isRes s.data.toList:=by
 unfold resD;rw[has_setOf _ _ _ (b5P 77)];have:resWords.take 77=resWords:=List.take_of_length_le (by decide);rw[this];unfold isRes;rw[List.any_map];rw[Bool.eq_iff_iff];simp only[List.any_eq_true,List.contains_iff_mem];constructor
 .rintro⟨x,hx,h⟩
  have:x=s.data.toList:=by simpa[Lit.sameKey] using h
  rw[<- this];exact hx
 intro h;exact⟨_,h,by simp[Lit.sameKey]⟩
end Go.Proofs.YtphmpkpcamgjeaaGreatDoor.Lx
namespace Go.Proofs.YtphmpkpcamgjeaaGreatDoor.Lx
open Go.ChangeShapes Go.WideShapes Go.ChangeAt Go.RowKit Go.Proofs.Tryz Go.Shelf
theorem b6h (c:UInt8) (h1:65<=(c.toNat:Int)) (h2:(c.toNat:Int)<=90):((lowC c).toNat:Int)=(c.toNat:Int)-65+97:=by
 unfold lowC;rw[if_pos (by omega)];simp;omega
theorem take_snoc (s:ByteArray) (k:Nat) (h:k<s.size):s.data.toList.take (k+1)=s.data.toList.take k++[s[k]'h]:=by
 rw[List.take_add_one,a0P s k h];rfl
theorem b6i (s:ByteArray) (w:World) (hs:s.size<=1048576) :
 Calls prog 42 #[.string s,.int .u8 65,.int .u8 97] w fun e w'=>e=.returned (.string ⟨(s.data.toList.map lowC).toArray⟩)/\Below w.heap.size w w':=by
 obtain⟨i0,hi,a1,a2,a3⟩:=info_parts info5;go_enter func42,ntmps42;go_wp2;go_loopw [7,8] (fun v i wr=>∃ k:Nat,k<=s.size/\i=.int .i64 k/\wr.ownsRow w.heap.size 5 1 v ((s.data.toList.take k).map lowC).length (a2k ((s.data.toList.take k).map lowC))/\Below w.heap.size w wr) (fun _ i _=>s.size-(intOf i).toNat)
 case atStart=>exact⟨0,Nat.zero_le _,rfl,World.ownsRow_made w #[] 0 (Nat.le_refl _) (by unfold maxLen;omega) (by simp),(Below.refl _ _).alloc (Nat.le_refl _) _⟩
 case round=>
 obtain⟨k,hk,rfl,hown,hbel⟩:=hrel
 have hll:((s.data.toList.take k).map lowC).length<=s.size:=by rw[List.length_map,List.length_take];simp;omega
 by_cases hlt:k<s.size
 .have hlti:(k:Int)<s.size:=by omega
  have HS:Hid ((s.data.toList.take (k+1)).map lowC=(s.data.toList.take k).map lowC++[lowC (s[k]'hlt)]):=by
   show(s.data.toList.take (k+1)).map lowC=(s.data.toList.take k).map lowC++[lowC (s[k]'hlt)]
   rw[take_snoc s k hlt,List.map_append];rfl
  obtain⟨acc,hacc⟩:∃ acc,(s.data.toList.take k).map lowC=acc:=⟨_,rfl⟩;rw[hacc] at hown hll HS;clear hacc;by_cases hup:65<=((s[k]'hlt).toNat:Int)/\((s[k]'hlt).toNat:Int)<=90
  .obtain⟨u1,u2⟩:=hup;have hlow:((lowC (s[k]'hlt)).toNat:Int)=((s[k]'hlt).toNat:Int)-65+97:=b6h _ u1 u2;have HLW:Hid (((lowC (s[k]'hlt)).toNat:Int)=((s[k]'hlt).toNat:Int)-65+97):=hlow;clear hlow;go_wp2_with (at_builtin;refine wpList_append_own _ rfl (.tmp 34) (.tmp 36) 100 rfl w.heap.size 5 i0 (.int .u8 0) 1 1 underlying100 hi a1 a2 a3 rfl (by decide) _ _ _ rfl (hown.alloc _) ⟨wr.heap.size,0,none⟩ 1 1 [.int .u8 (((s[k]'hlt).toNat:Int)-65+97)] rfl rfl (cell_one_new _ _ _) (by intro u hu;simp at hu;subst hu;rfl) (by unfold maxLen;omega) (by omega) (by have:=hbel.size;simp;omega) ?_;intro v' w1 hown' hgrow _);have a0:Hid (Below w.heap.size w w1):=(hbel.alloc hbel.size _).grown hgrow (by have:=hbel.size;simp;omega) (fun k hk=>(hown.lt k hk).1)
   have HO:Hid (w1.ownsRow w.heap.size 5 1 v' ((s.data.toList.take (k+1)).map lowC).length (a2k ((s.data.toList.take (k+1)).map lowC))):=by
    show w1.ownsRow w.heap.size 5 1 v' ((s.data.toList.take (k+1)).map lowC).length (a2k ((s.data.toList.take (k+1)).map lowC))
    rw[HS.out,a2G,HLW.out];simpa using hown'
   clear hown' hgrow hown hbel;go_wp2;go_roundw
   case rel=>exact⟨k+1,by omega,by go_num,HO.out,a0.out⟩
   case measure=>simp[intOf];omega
  have HLW:Hid (lowC (s[k]'hlt)=s[k]'hlt):=b6P (by omega);by_cases u1:65<=((s[k]'hlt).toNat:Int)
  .have u2:¬ ((s[k]'hlt).toNat:Int)<=90:=fun z=>hup ⟨u1,z⟩;clear hup;go_wp2_with (at_builtin;refine wpList_append_own _ rfl (.tmp 34) (.tmp 36) 100 rfl w.heap.size 5 i0 (.int .u8 0) 1 1 underlying100 hi a1 a2 a3 rfl (by decide) _ _ _ rfl (hown.alloc _) ⟨wr.heap.size,0,none⟩ 1 1 [.int .u8 ((s[k]'hlt).toNat:Int)] rfl rfl (cell_one_new _ _ _) (by intro u hu;simp at hu;subst hu;rfl) (by unfold maxLen;omega) (by omega) (by have:=hbel.size;simp;omega) ?_;intro v' w1 hown' hgrow _);have a0:Hid (Below w.heap.size w w1):=(hbel.alloc hbel.size _).grown hgrow (by have:=hbel.size;simp;omega) (fun k hk=>(hown.lt k hk).1)
   have HO:Hid (w1.ownsRow w.heap.size 5 1 v' ((s.data.toList.take (k+1)).map lowC).length (a2k ((s.data.toList.take (k+1)).map lowC))):=by
    show w1.ownsRow w.heap.size 5 1 v' ((s.data.toList.take (k+1)).map lowC).length (a2k ((s.data.toList.take (k+1)).map lowC))
    rw[HS.out,a2G,HLW.out];simpa using hown'
   clear hown' hgrow hown hbel;go_wp2;go_roundw
   case rel=>exact⟨k+1,by omega,by go_num,HO.out,a0.out⟩
   case measure=>simp[intOf];omega
  clear hup;go_wp2_with (at_builtin;refine wpList_append_own _ rfl (.tmp 34) (.tmp 36) 100 rfl w.heap.size 5 i0 (.int .u8 0) 1 1 underlying100 hi a1 a2 a3 rfl (by decide) _ _ _ rfl (hown.alloc _) ⟨wr.heap.size,0,none⟩ 1 1 [.int .u8 ((s[k]'hlt).toNat:Int)] rfl rfl (cell_one_new _ _ _) (by intro u hu;simp at hu;subst hu;rfl) (by unfold maxLen;omega) (by omega) (by have:=hbel.size;simp;omega) ?_;intro v' w1 hown' hgrow _);have a0:Hid (Below w.heap.size w w1):=(hbel.alloc hbel.size _).grown hgrow (by have:=hbel.size;simp;omega) (fun k hk=>(hown.lt k hk).1)
  have HO:Hid (w1.ownsRow w.heap.size 5 1 v' ((s.data.toList.take (k+1)).map lowC).length (a2k ((s.data.toList.take (k+1)).map lowC))):=by
   show w1.ownsRow w.heap.size 5 1 v' ((s.data.toList.take (k+1)).map lowC).length (a2k ((s.data.toList.take (k+1)).map lowC))
   rw[HS.out,a2G,HLW.out];simpa using hown'
  clear hown' hgrow hown hbel;go_wp2;go_roundw
  case rel=>exact⟨k+1,by omega,by go_num,HO.out,a0.out⟩
  case measure=>simp[intOf];omega
 have he:(s.data.toList.take k).map lowC=s.data.toList.map lowC:=by
  rw[List.take_of_length_le (by simp;omega)]
 rw[he] at hown;obtain⟨acc,hacc⟩:∃ acc,s.data.toList.map lowC=acc:=⟨_,rfl⟩;rw[hacc] at hown;have HE:Hid (s.data.toList.map lowC=acc):=hacc;have hcv:=a6K wr _ _ _ hown;clear hown he hacc hll;go_wp2;go_ret;exact⟨ret_str (by rw[HE.out]),hbel⟩
def a4X (l:List UInt8) (p q:Nat):Prop:=p<=q/\(q<=l.length\/q=p)/\(∀ acc r,LexR l q acc r->LexR l p acc r)/\(q<l.length->∃ c,l[q]?=some c/\blank c=false/\a2H l q=false)
theorem b1x (s:ByteArray) (a:Nat) (w:World) (hs:s.size<=8000) (ha:a<=s.size) :
 Calls prog 20 #[.string s,.int .i64 a] w fun e w'=>∃ q:Nat,a4X s.data.toList a q/\q<=s.size/\e=.returned (.int .i64 q)/\w'=w:=by
 have hsl:s.data.toList.length=s.size:=by simp
 go_enter func20,ntmps20;go_wp2;go_loop [1] (fun i=>∃ p:Nat,a<=p/\p<=s.size/\i=.int .i64 p/\Hid (∀ acc r,LexR s.data.toList p acc r->LexR s.data.toList a acc r)) (fun i=>s.size-(intOf i).toNat)
 case atStart=>exact⟨a,Nat.le_refl _,ha,rfl,fun _ _ h=>h⟩
 case round=>
 obtain⟨p,hap,hp,rfl,HC⟩:=hrel;by_cases hlt:p<s.size
 .have hlti:(p:Int)<s.size:=by omega
  have HG:Hid (s.data.toList[p]?=some (s[p]'hlt)):=a0P s p hlt;obtain⟨c0,a0⟩:∃ c0:UInt8,s[p]'hlt=c0:=⟨_,rfl⟩
  have hci:((s[p]'hlt).toNat:Int)=(c0.toNat:Int):=by rw[a0]
  cases hbl:blank c0
  .have HBL:Hid (blank (s[p]'hlt)=false):=by rw[a0];exact hbl
   unfold blank at hbl;simp only[Bool.or_eq_false_iff,decide_eq_false_iff_not] at hbl;obtain⟨⟨⟨a6,n9⟩,a3⟩,a7⟩:=hbl
   have a6:((c0.toNat:Int)==32)=false:=by rw[beq_eq_false_iff_ne];exact fun z=>a6 (UInt8.toNat.inj (show c0.toNat=32 by omega))
   have n9:((c0.toNat:Int)==9)=false:=by rw[beq_eq_false_iff_ne];exact fun z=>n9 (UInt8.toNat.inj (show c0.toNat=9 by omega))
   have a3:((c0.toNat:Int)==10)=false:=by rw[beq_eq_false_iff_ne];exact fun z=>a3 (UInt8.toNat.inj (show c0.toNat=10 by omega))
   have a7:((c0.toNat:Int)==13)=false:=by rw[beq_eq_false_iff_ne];exact fun z=>a7 (UInt8.toNat.inj (show c0.toNat=13 by omega))
   have HSTOP:a2H s.data.toList p=false->a4X s.data.toList a p:=fun z=>⟨hap,.inl (by omega),HC.out,fun _=>⟨_,HG.out,HBL.out,z⟩⟩;by_cases a2:c0=45
   .have hcv:(c0.toNat:Int)=45:=by rw[a2];rfl
    by_cases hlt2:p+1<s.size
    .have a5:(p:Int)+1<s.size:=by omega
     obtain⟨d0,a4⟩:∃ d0:UInt8,s[p+1]'hlt2=d0:=⟨_,rfl⟩
     have hdi:((s[p+1]'hlt2).toNat:Int)=(d0.toNat:Int):=by rw[a4]
     have a8:Hid (s.data.toList[p+1]?=some d0):=by show _=_;rw[a0P s (p+1) hlt2,a4]
     by_cases a1:d0=45
     .have hdv:(d0.toNat:Int)=45:=by rw[a1];rfl
      have HCM:Hid (a2H s.data.toList p=true):=by
       show a2H s.data.toList p=true
       unfold a2H;rw[HG.out,a8.out,a0,a2,a1];rfl
      clear HSTOP a2 a1 a4 a0;go_wp2;go_loop [1] (fun i=>∃ q:Nat,p<=q/\q<=s.size/\i=.int .i64 q/\Hid (q-p<=runN nlI (s.data.toList.drop p))) (fun i=>s.size-(intOf i).toNat)
      case atStart=>exact⟨p,Nat.le_refl _,by omega,rfl,by show p-p<=_;omega⟩
      case round=>
      obtain⟨q,a9,b0,rfl,HQ⟩:=hrel;by_cases hql:q<s.size
      .have hqi:(q:Int)<s.size:=by omega
       have hst:=a2y nlI _ (q-p) _ HQ.out (get_at s p q a9 hql);by_cases h10:((s[q]'hql).toNat:Int)=10
       .have HE:Hid (p+runN nlI (s.data.toList.drop p)=q):=by
         have:=hst.2 (by unfold nlI;simp[h10])
         show _=_
         omega
        have hpq:p<q:=by
         rcases Nat.lt_or_ge p q with z | z
         .exact z
         have e:p=q:=by omega
         subst e;rw[beq_eq_false_iff_ne] at a3;exact absurd (hci.symm.trans h10) a3
        clear hst;go_wp2;go_round
        case rel=>exact⟨q,by omega,by omega,rfl,fun acc r h=>HC.out acc r (LexR.cmt HCM.out (by rw[HE.out];exact h))⟩
        case measure=>simp[intOf];omega
       have HE:Hid (q+1-p<=runN nlI (s.data.toList.drop p)):=by
        have:=hst.1 (by unfold nlI;simp[h10])
        show _<=_
        omega
       clear hst;go_wp2;go_round
       case rel=>exact⟨q+1,by omega,by omega,by go_num,HE.out⟩
       case measure=>simp[intOf];omega
      have HE:Hid (p+runN nlI (s.data.toList.drop p)=q):=by
       have h1:=runN_le nlI (s.data.toList.drop p);have h2:=HQ.out;rw[List.length_drop,hsl] at h1
       show _=_
       omega
      have hqi:¬ (q:Int)<s.size:=by omega
      go_wp2;go_round
      case rel=>exact⟨q,by omega,by omega,rfl,fun acc r h=>HC.out acc r (LexR.cmt HCM.out (by rw[HE.out];exact h))⟩
      case measure=>simp[intOf];omega
     have hdv:¬ (d0.toNat:Int)=45:=fun z=>a1 (UInt8.toNat.inj (show d0.toNat=45 by omega));have HK:Hid (a4X s.data.toList a p):=HSTOP (by unfold a2H;rw[a8.out];simp[a1]);clear HSTOP a2 a1 a4 a0;go_wp2;go_ret;exact⟨p,HK.out,hp,rfl,rfl⟩
    have a5:¬ (p:Int)+1<s.size:=by omega
    have HK:Hid (a4X s.data.toList a p):=HSTOP (by unfold a2H;rw[List.getElem?_eq_none (by omega:s.data.toList.length<=p+1)];simp);clear HSTOP a2 a0;go_wp2;go_ret;exact⟨p,HK.out,hp,rfl,rfl⟩
   have hcv:¬ (c0.toNat:Int)=45:=fun z=>a2 (UInt8.toNat.inj (show c0.toNat=45 by omega));have HK:Hid (a4X s.data.toList a p):=HSTOP (by unfold a2H;rw[HG.out,a0];simp[a2]);clear HSTOP a2 a0;go_wp2;go_ret;exact⟨p,HK.out,hp,rfl,rfl⟩
  unfold blank at hbl;simp only[Bool.or_eq_true,decide_eq_true_eq] at hbl
  have HBL:Hid (blank (s[p]'hlt)=true):=by
   show blank (s[p]'hlt)=true
   rw[a0];unfold blank;simp only[Bool.or_eq_true,decide_eq_true_eq];exact hbl
  rcases hbl with((h | h) | h) | h
  all_goals
    subst h
    go_wp2
    go_round
    case rel=>exact⟨p+1,by omega,by omega,by go_num,fun acc r h=>HC.out acc r (LexR.blank HG.out HBL.out h)⟩
    case measure=>simp[intOf];omega
 have hlti:¬ (p:Int)<s.size:=by omega
 go_wp2;go_ret;exact⟨p,⟨hap,.inl (by omega),HC.out,fun h=>by omega⟩,hp,rfl,rfl⟩
end Go.Proofs.YtphmpkpcamgjeaaGreatDoor.Lx
namespace Go.Proofs.YtphmpkpcamgjeaaGreatDoor.Lx
open Go.ChangeShapes Go.WideShapes Go.ChangeAt Go.RowKit Go.Proofs.Tryz Go.Shelf
def cutT (a:Nat):Cut->Value
 | .tok k x n=>.tuple #[.agg #[.int .i64 k,.string ⟨x.toArray⟩,.int .i64 (a:Int)],.int .i64 ((a+n:Nat):Int),.int .i64 0,.int .i64 0]
 | .err c f=>.tuple #[.agg #[.int .i64 0,.string ⟨#[]⟩,.int .i64 0],.int .i64 0,.int .i64 c,.int .i64 ((a+f:Nat):Int)]
theorem a2v (a:Nat) (k:Int) (t:ByteArray) (n:Nat) (e:Int) (he:e=((a+n:Nat):Int)):(.tuple #[.agg #[.int .i64 k,.string t,.int .i64 (a:Int)],.int .i64 e,.int .i64 0,.int .i64 0]:Value)=cutT a (.tok k t.data.toList n):=by
 rw[he];simp only[cutT,a3C]
theorem a0M (a:Nat) (c:Int) (f:Nat) (e:Int) (he:e=((a+f:Nat):Int)):(.tuple #[.agg #[.int .i64 0,.string ⟨#[]⟩,.int .i64 0],.int .i64 0,.int .i64 c,.int .i64 e]:Value)=cutT a (.err c f):=by
 rw[he];rfl
end Go.Proofs.YtphmpkpcamgjeaaGreatDoor.Lx
namespace Go.Proofs.YtphmpkpcamgjeaaGreatDoor.Lx
open Go.ChangeShapes Go.WideShapes Go.ChangeAt Go.RowKit Go.Proofs.Tryz Go.Shelf
theorem b6l (s t:ByteArray) (a n:Nat) (r:Cut) (w:World) (hs:s.size<=8000) (hn1:1<=n) (hn2:a+n<=s.size) (ht1:1<=t.size) (ht2:t.size<=n)
    (hrun:∀ w,Calls prog 41 #[.string s,.int .i64 a,.int .i64 1] w fun e w'=>e=.returned (.int .i64 n)/\w'=w)
    (hno:∀ w,Calls prog 83 #[.string (s.extract a (a+n))] w fun e w'=>e=.returned (.string t)/\w'=w)
    (hdt:digs t.data.toList) (HR:Hid (r=if bigI t.data.toList then .err 5 0 else if a1e s (a+n) then .err 2 n else .tok 3 t.data.toList n))
    (hn:a+n<s.size) (hA:a+n+1<s.size) (hB:((s[a+n]'hn).toNat:Int)=46) (hC:digI ((s[a+n+1]'hA).toNat:Int)=false) :
 Calls prog 44 #[.string s,.int .i64 a] w fun e w'=>e=.returned (cutT a r)/\Below w.heap.size w w':=by
 have htl:t.data.toList.length=t.size:=by simp
 have hAi:(a:Int)+n+1<s.size:=by omega
 have hdg:=fun w=>a1S ((s[a+n+1]'hA).toNat:Int) w;rw[hC] at hdg;clear hC;have hrm:=hrun;by_cases h19:19<t.size
 .have a0:(19:Int)<t.size:=by omega
  have a1:decide ((19:Int)<t.size)=true:=by simp;omega
  have HB:Hid (bigI t.data.toList=true):=a4G _ (by rw[htl];exact h19);have hbw:=fun w=>a0z 0 w;have hdv:=fun w=>a0z 0 w;go_enter func44,ntmps44;go_wp2_with (first | (go_at_call 41;(first | with_reducible refine(hrun _).mono ?_ | with_reducible refine(hrm _).mono ?_);rintro e w' ⟨rfl,rfl⟩) | (go_at_call 83;refine ws (hno _) ?_) | (go_at_call 84;refine ws (hdv _) ?_) | (go_at_call 43;refine ws (hdg _) ?_) | (go_at_call 40;refine ws (hbw _) ?_));refine bodyPost_ret (v:=.tuple #[.agg #[.int .i64 0,.string ⟨#[]⟩,.int .i64 0],.int .i64 0,.int .i64 5,.int .i64 (a:Int)]) (by simp[results,results44,go_sem]) rfl ⟨?_,((Below.refl _ _).alloc (Nat.le_refl _) _).alloc (by simp) _⟩;rw[HR.out];rw[if_pos HB.out];exact retV (a0M a 5 0 _ (by omega))
 have a0:¬ (19:Int)<t.size:=by omega
 have a1:decide ((19:Int)<t.size)=false:=by simp;omega
 have hdv:=fun w=>a3I t w ht1 (by omega) hdt;have hvl:=a3Y _ hdt;rw[htl] at hvl;have hvp:(10:Nat)^t.size<=10^19:=Nat.pow_le_pow_right (by omega) (by omega)
 have hbig:bigI t.data.toList=decide (9223372036854775807<val t.data.toList):=by unfold bigI;rw[htl];simp[h19]
 have hvb:val t.data.toList<10000000000000000000:=by omega
 clear hvl hvp;generalize val t.data.toList=vv at *;by_cases hmx:9223372036854775807<vv
 .have hmxi:(9223372036854775807:Int)<vv:=by omega
  have hmxc:decide ((9223372036854775807:Int)<vv)=true:=by simp;omega
  have HB:Hid (bigI t.data.toList=true):=by show bigI t.data.toList=true;rw[hbig];simp[hmx]
  clear hbig;have hbw:=fun w=>a0z 0 w;go_enter func44,ntmps44;go_wp2_with (first | (go_at_call 41;(first | with_reducible refine(hrun _).mono ?_ | with_reducible refine(hrm _).mono ?_);rintro e w' ⟨rfl,rfl⟩) | (go_at_call 83;refine ws (hno _) ?_) | (go_at_call 84;refine ws (hdv _) ?_) | (go_at_call 43;refine ws (hdg _) ?_) | (go_at_call 40;refine ws (hbw _) ?_));refine bodyPost_ret (v:=.tuple #[.agg #[.int .i64 0,.string ⟨#[]⟩,.int .i64 0],.int .i64 0,.int .i64 5,.int .i64 (a:Int)]) (by simp[results,results44,go_sem]) rfl ⟨?_,((Below.refl _ _).alloc (Nat.le_refl _) _).alloc (by simp) _⟩;rw[HR.out];rw[if_pos HB.out];exact retV (a0M a 5 0 _ (by omega))
 have hmxi:¬ (9223372036854775807:Int)<vv:=by omega
 have hmxc:decide ((9223372036854775807:Int)<vv)=false:=by simp;omega
 have HB:Hid (bigI t.data.toList=false):=by show bigI t.data.toList=false;rw[hbig];simp;omega
 clear hbig;have hbw:=fun w=>a0z 46 w;have hX:=a1T s (a+n) hn;rw[hB] at hX
 have hw:wdI 46=false:=by decide
 rw[hw] at hbw hX;have HX:Hid (a1e s (a+n)=false):=hX;clear hX hw;go_enter func44,ntmps44;go_wp2_with (first | (go_at_call 41;(first | with_reducible refine(hrun _).mono ?_ | with_reducible refine(hrm _).mono ?_);rintro e w' ⟨rfl,rfl⟩) | (go_at_call 83;refine ws (hno _) ?_) | (go_at_call 84;refine ws (hdv _) ?_) | (go_at_call 43;refine ws (hdg _) ?_) | (go_at_call 40;refine ws (hbw _) ?_));refine bodyPost_ret (v:=.tuple #[.agg #[.int .i64 3,.string t,.int .i64 (a:Int)],.int .i64 ((a:Int)+n),.int .i64 0,.int .i64 0]) (by simp[results,results44,go_sem]) rfl ⟨?_,((Below.refl _ _).alloc (Nat.le_refl _) _).alloc (by simp) _⟩;rw[HR.out];rw[if_neg (by rw[HB.out];decide),if_neg (by rw[HX.out];decide)];exact retV (a2v a 3 t n _ (by omega))
end Go.Proofs.YtphmpkpcamgjeaaGreatDoor.Lx
