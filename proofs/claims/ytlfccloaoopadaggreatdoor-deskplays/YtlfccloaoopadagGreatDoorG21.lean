import Derived.StringKeys
import Derived.Maps.OwnSet
import Derived.Laws.IdiomStrings
import Derived.Test.YtlfccloaoopadagGreatDoorG10
open Go.Proofs.Tryz
set_option maxRecDepth 100000
set_option maxHeartbeats 0
namespace Go.Proofs.YtlfccloaoopadagGreatDoor
open Go.ChangeShapes Go.WideShapes Go.ChangeAt Go.RowKit Go.Maps
variable{p:Prop}
def mh(q:Nat):Bool:= !jN q
theorem TU(h:p:=by unfold mh jN;simp;omega):p:=h
theorem Jj{a:Nat}(b:(a:Int)<97):mh a=true:=TU
theorem Ji{a:Nat}(b:122<(a:Int)):mh a=true:=TU
theorem Jk{a:Nat}(b:¬(a:Int)<97)(c:¬122<(a:Int)):mh a=false:=TU
theorem Zf(h:p:=by
 go_wp2_with fail
 go_ret
 exact⟨rfl,Below.refl _ _⟩):p:=h
theorem ack(h:p:=by
 go_enter func204,ntmps204
 exact Zf):p:=h
theorem Jg(a:Nat)(b:World):Calls prog 204 #[.int .u8 (a:Int)] b λe f=>e=.returned (.bool (mh a))/\Below b b f:=by
 by_cases c:(a:Int)<97
 .rw[Jj c];exact ack
 by_cases d:122<(a:Int)
 .rw[Ji d];exact ack
 rw[Jk c d];exact ack
theorem nx(a:World)(b c)(f:Nat×Nat)(d):(a.alloc (.cells b c f)).cell? ⟨a,d,none⟩=b[d]? :=by
 unfold World.cell?
 have e:(a.alloc (.cells b c f)).heap[(⟨a,d,none⟩:Addr).block]? =some (.cells b c f):=by
  show(a.heap.push (.cells b c f))[a.heap.size]? =_;simp
 rw[e];rfl
theorem IZ(l:List Nat):l.any mh= !l.all jN:=by
 induction l with
 |nil=>rfl
 |cons a l ih=>rw[List.any_cons,List.all_cons,ih,mh];cases jN a<;>rfl
theorem TX(h:p:=by unfold bQ;simp;omega):p:=h
theorem abt(h:p:=by
 have:bQ (s.size:Int) 1 8=false:=TX
 rw[fY,this,Bool.and_false]):p:=h
theorem Jh(a:World)(s)(u:s.size<=9223372036854775807):Calls prog 159 #[.string s] a λe q=>e=.returned (.bool (fY s))/\Below a a q:=by
 by_cases r:s.size<1
 .have e:fY s=false:=by
   exact abt
  rw[e];have f:(s.size:Int)<1:=Q0;go_enter func159,ntmps159;exact Zf
 by_cases t:8<s.size
 .have e:fY s=false:=by
   exact abt
  rw[e];have f:¬(s.size:Int)<1:=Q0;have j:8<(s.size:Int):=Q0;go_enter func159,ntmps159;exact Zf
 have e:fY s= !(jM s).any mh:=by
  have:bQ (s.size:Int) 1 8=true:=TX;rw[fY,this,Bool.and_true,IZ,Bool.not_not]
 rw[e];have f:¬(s.size:Int)<1:=Q0;have j:¬8<(s.size:Int):=Q0;have n:=λa=>run_bytes_of_string (P:=prog) a 9 132 5 s underlying9 underlying132 underlying5;go_enter func159,ntmps159;go_wp2_with fail;clear n;obtain⟨c,b⟩:=ex_ ((a.alloc (Obj.cells (bytesRow s (grownCap a s.size 0 5)) 5 ((bytesRow s (grownCap a s.size 0 5)).size,(bytesRow s (grownCap a s.size 0 5)).size+1))).drew);have m:Below a a c:=by rw[<-b];exact(bH _ _).drew
 have k:ti c (.slice (some ⟨a,0,none⟩) s.size (grownCap a s.size 0 5)) (jM s):=by
  refine⟨_,_,by rw[rz],by rw[rz];omega,.inr ⟨a,0,rfl,by rw[<-b];simp[World.drew],λo v d=>?_⟩⟩;have g:=(List.getElem?_eq_some_iff.1 d).1;have h:=by rwa[rz] at g
  rw[List.getElem?_eq_getElem g,wX h] at d;rw[<-Option.some.inj d,<-b];have:=bytesRow_at s (grownCap a s.size 0 5) o h;show(a.alloc _).cell? _=_;rw[Nat.zero_add,Nat.mul_one,nx,this];rfl
 rw[b];refine mo_ (FZ c _ (jM s) _ #[] (enters_of func204 TT rfl) mh k (λi p _ _=>Jg p i)) λi l=>?_;go_wp2_with fail;go_ret;exact⟨rfl,cU m l⟩
theorem I0(a)(b:World)(c:a.name.size<=9223372036854775807):Calls prog 158 #[fS a] b λe f=>e=.returned (.bool (ge a))/\Below b b f:=by
 rw[ge,fS];go_enter func158,ntmps158;go_wp2_with(first|(go_at_call 159;refine mo_ (Jh _ _ c) λg d=>?_));go_ret;exact⟨rfl,cU (bH _ _) d⟩
theorem B7{n a b}(c:n<a):bQ n a b=false:=TX
theorem B6{n b a}(c:a<n):bQ n b a=false:=TX
theorem B8{n a b}(c:¬n<a)(d:¬b<n):bQ n a b=true:=TX
theorem acm(h:p:=by
 go_enter func161,ntmps161
 exact YO):p:=h
theorem I3(a)(b:World):Calls prog 161 #[fS a] b λe f=>e=.returned (.bool (g7 a))/\Below b b f:=by
 rw[g7,fS];by_cases c:a.arity<0
 .rw[B7 c];exact acm
 by_cases d:2<a.arity
 .rw[B6 d];exact acm
 rw[B8 c d];exact acm
theorem acl(h:p:=by
 go_enter func162,ntmps162
 exact YO):p:=h
theorem I4(a)(b:World):Calls prog 162 #[fS a] b λe f=>e=.returned (.bool (iI a))/\Below b b f:=by
 rw[iI,fS];by_cases c:a.kind<0
 .rw[B7 c];exact acl
 by_cases d:3<a.kind
 .rw[B6 d];exact acl
 rw[B8 c d];exact acl
def gM(ps:List Prd)(s:ByteArray):Nat:=ps.countP (mi s)
theorem wY{b:List Prd}{a:Nat}(c:a<b.length)(s:ByteArray):gM (b.take (a+1)) s=gM (b.take a) s+if mi s b[a] then 1 else 0:=by
 rw[gM,List.take_succ_eq_append_getElem c,List.countP_append,List.countP_singleton];rfl
theorem I5(a s):gM a s<=a.length:=List.countP_le_length
theorem pW{s a}:mi s a=true↔a.name.data.toList=s.data.toList:=by
 rw[mi,ByteArray.toList_eq,ByteArray.toList_eq];simp
theorem I6{b}(a)(l:a<=b.length)(c:(List.range a).any (oe b)=false)(s):gM (b.take a) s<=1:=by
 induction a with
 |zero=>simp[gM]
 |succ a ih=>
  rw[BU,Bool.or_eq_false_iff] at c;have f:a<b.length:=Q0;have:=ih Q0 c.1;rw[wY f];split
  .rename_i hs;have d:=c.2;rw[oe,t8 f] at d
   have k:gM (b.take a) s=0:=by
    rw[gM,List.countP_eq_zero];intro j i g;have h:=List.any_eq_false.1 d j i;apply h;rw[pW] at g hs⊢;rw[g,hs]
   omega
  omega
def t_(ps:List Prd)(q:Prd):Bool:=decide (1<gM ps q.name)
theorem Jr(a):a.any (t_ a)=iJ a:=by
 rw[B4];cases d:(List.range a).any (oe a)
 .rw[List.any_eq_false];intro i _ h;have:=I6 a (Nat.le_refl _) d i.name;rw[List.take_length] at this;have:=of_decide_eq_true h;omega
 obtain⟨b,c,f⟩:=List.any_eq_true.1 d;have c:=List.mem_range.1 c;refine List.any_eq_true.2 ⟨a[b],List.getElem_mem c,decide_eq_true ?_⟩;rw[oe,t8 c] at f;have j:0<gM (a.take b) a[b].name:=List.countP_pos_iff.2 (List.any_eq_true.1 f);have g:=wY c a[b].name;rw[if_pos (by rw[pW])] at g
 have k:gM (a.take (b+1)) a[b].name<=gM a a[b].name:=by
  have:=congrArg (List.countP (mi a[b].name)) (List.take_append_drop (b+1) a);rw[List.countP_append] at this;unfold gM;omega
 omega
