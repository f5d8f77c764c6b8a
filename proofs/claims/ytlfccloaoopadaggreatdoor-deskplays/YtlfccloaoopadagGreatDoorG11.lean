import Derived.Test.YtlfccloaoopadagGreatDoorG7
import Derived.Test.YtlfccloaoopadagGreatDoorG10
open Go.Proofs.Tryz
set_option maxRecDepth 100000
set_option maxHeartbeats 0
open ByteArray (ext size_append)
open List (all_cons append_assoc cons_append getD getElem?_eq_getElem getElem_mem length_cons nil_append take_length)
open Nat (le_refl zero_le)
open Bool (and_eq_true)
open Option.some (injEq)
open UInt8 (toNat_inj toNat_ofNat')
open Option (bind_eq_some_iff)
namespace Go.Proofs.YtlfccloaoopadagGreatDoor
open Go.ChangeShapes Go.WideShapes Go.ChangeAt Go.RowKit
variable{p:Prop}
def dO(t:Tm):ByteArray:=if t.var then kQ (65+t.n) else b_ t.n
def ei(ps:List Prd)(p:Int):ByteArray:=((ps[p.toNat]?).map Prd.name).getD ⟨#[]⟩
def gq(ps:List Prd)(a:Atm):Nat->ByteArray
 |0=>ei ps a.pred
 |k+1=>(gq ps a k++(if k=0 then⟨#[40]⟩ else⟨#[44]⟩))++dO (a.args.getD k ⟨false,0⟩)
def dr(ps:List Prd)(a:Atm):ByteArray:=if 0<a.args.length then gq ps a a.args.length++⟨#[41]⟩ else gq ps a 0
theorem DJ(a):(dO a).size<=2:=by
 unfold dO;split
 .rw[qF];omega
 exact gF _
theorem uU{c a}(b:(ei c a.pred).size<=8):∀k,(gq c a k).size<=8+k*3
 |0=>by simpa[gq] using b
 |k+1=>by
  have ih:=uU b k
  have f:=DJ (a.args.getD k ⟨false,0⟩)
  rw[gq,size_append,size_append]
  have d:(if k=0 then(⟨#[40]⟩:ByteArray) else⟨#[44]⟩).size=1:=by split<;>rfl
  omega
theorem DS{c a}(b:(ei c a.pred).size<=8):(dr c a).size<=9+a.args.length*3:=by
 unfold dr;split
 .rw[size_append];have:=uU b a.args.length;have d:(⟨#[41]⟩:ByteArray).size=1:=rfl;omega
 have:=uU b 0;omega
def xU(t:Tm):Prop:=0<=t.n/\t.n<=99
theorem RT(h:p:=by rw[<-hW1];exact bH _ _):p:=h
theorem RU(h:p:=by rw[<-hW1];simp[go_sem]):p:=h
theorem RW(h:p:=by rw[<-hW1];simp):p:=h
theorem RX(h:p:=by simpa using hv):p:=h
theorem RY(h:p:=by rw[HS.out]):p:=h
theorem RZ(h:p:=by rw[HE.out];rfl):p:=h
theorem aa7(h:p:=by
 generalize gq ps a a.args.length=B at*
 go_wp2_with fail
 go_ret
 exact⟨RZ,kw⟩):p:=h
theorem qu(c:World)(C t ps a)(e:Nat)(R:bR c C ps)(z:cr c t a.args)(x:a.pred=(e:Int))(y:e<ps.length)(P:∀ab∈a.args,xU ab)(O:(ei ps a.pred).size<=8)(aj:a.args.length<=500):Calls prog 92 #[C,.agg #[a.pred,t]] c λe ae=>e=.returned (.string (dr ps a))/\Below c c ae:=by
 have H:=lt_ z;have G:=hid_ P;have s:=hid_ (uU O);obtain⟨au,aw,av,rfl,S,A,W,X⟩:=cN R y;obtain⟨k,l,rfl,ai,_⟩:=z
 have F:Hid (gq ps a 0=ps[e].name):=by
  show ei ps a.pred=_;rw[ei,x,Int.toNat_natCast,getElem?_eq_getElem y];rfl
 have al:(e:Int)<(ps.length:Int):=Q0;rw[x];obtain⟨g,hW1⟩:=ex_ (c.alloc (.cells #[e,.slice k a.args l] 55));have u:Below c c g:=RT;have V:=(bF u S).trans A;have J:g.cell? c=some (.int .i64 (e:Int)):=RU;have K:g.cell? ⟨c,1,none⟩=some (.slice k a.args l):=RU;have T:c.heap.size<g.heap.size:=RW;have E:=hid_ λaf (U:Below g g af)=>(bF U T).trans K;clear A W X;go_enter func92,ntmps92;go_wp2_with fail;clear hW1 J V;go_loopw [5,6] (λaa p wr=>∃b:Nat,b<=a.args.length/\p=.int .i64 b/\aa=.string (gq ps a b)/\Below g g wr) (λ_ p _=>a.args.length-(intOf p).toNat)
 case atStart=>exact⟨0,zero_le _,rfl,by rw[F.out],Below.refl _ _⟩
 obtain⟨b,am,rfl,rfl,d⟩:=hrel;have ag:=E wr d;have kw:=bt_ u d;by_cases o:b<a.args.length
 .obtain⟨q,r,ad,hv,ar,h,ac⟩:=cN (H wr kw) o;obtain⟨rfl,rfl⟩:k=some ⟨q,r,none⟩/\l=ad:=RX;have ao:(b:Int)<(a.args.length:Int):=Q0;have an:(0:Int)<=(b:Int):=Q0;obtain⟨Y,Z⟩:=G _ (getElem_mem o)
  have HS:Hid (gq ps a (b+1)=(gq ps a b++(if b=0 then⟨#[40]⟩ else⟨#[44]⟩))++dO a.args[b]):=by
   show _=_;rw[gq];congr 2;simp[getD,getElem?_eq_getElem o]
  have w:=ph wr a.args[b].n Y Z;have ak:=sn wr (65+a.args[b].n);have L:=s b;have M:=gF a.args[b].n;have Q:=qF (65+a.args[b].n);have N:¬9223372036854775807<(gq ps a b).size+1:=Q0;have ap:¬9223372036854775807<(gq ps a b).size+1+(b_ a.args[b].n).size:=Q0;have aq:¬9223372036854775807<(gq ps a b).size+1+(kQ (65+a.args[b].n)).size:=Q0;clear hv L M Q;generalize a.args[b]=j at*;generalize gq ps a b=B at*;by_cases i:b=0
  .subst i;rw[if_pos rfl] at HS;have D:wr.cell? ⟨q,r,none⟩=some (.bool j.var):=by have:=h;rwa[Nat.zero_mul,Nat.add_zero] at this
   have ax:wr.cell? ⟨q,r+1,none⟩=some (.int .i64 j.n):=by have:=ac;rwa[Nat.zero_mul,Nat.add_zero] at this
   cases f:j.var
   .rw[dO,f,if_neg Q1] at HS;rw[f] at h D;go_wp2_with fail;refine mo_ w λI m=>?_;go_wp2_with fail;go_roundw
    case rel=>exact⟨1,Q0,Rv,RY,d.trans (m.mono d.size)⟩
    exact adT
   rw[dO,f,if_pos rfl] at HS;rw[f] at h D;go_wp2_with fail;go_roundw
   case rel=>exact⟨1,Q0,Rv,RY,d.alloc d.size _⟩
   exact adT
  rw[if_neg i] at HS;have v:(b:Int)≠0:=Q0;cases f:j.var
  .rw[dO,f,if_neg Q1] at HS;rw[f] at h;go_wp2_with fail;refine mo_ w λI m=>?_;go_wp2_with fail;go_roundw
   case rel=>exact⟨b+1,Q0,Rv,RY,d.trans (m.mono d.size)⟩
   exact adT
  rw[dO,f,if_pos rfl] at HS;rw[f] at h;go_wp2_with fail;go_roundw
  case rel=>exact⟨b+1,Q0,Rv,RY,d.alloc d.size _⟩
  exact adT
 obtain rfl:b=a.args.length:=Q0;by_cases i:a.args.length=0
 .have HE:Hid (dr ps a=gq ps a a.args):=by show _=_;rw[dr,if_neg Q0,i]
  have v:(a.args.length:Int)=0:=Q0;exact aa7
 have N:¬9223372036854775807<(gq ps a a.args).size+1:=by have:=s a.args.length;omega
 have HE:Hid (dr ps a=gq ps a a.args.length++⟨#[41]⟩):=by show _=_;rw[dr,if_pos Q0]
 have v:(0:Int)<(a.args.length:Int):=Q0;have ah:0<a.args.length:=Q0;exact aa7
def qH(B:ByteArray)(q:Prd):ByteArray:=B++⟨#[112,114,101,100,32]⟩++q.name++⟨#[32]⟩++b_ q.arity++⟨#[32]⟩++b_ q.kind++⟨#[10]⟩
def jY(ps:List Prd):Nat->ByteArray
 |0=>⟨#[]⟩
 |k+1=>qH (jY ps k) (ps.getD k ⟨⟨#[]⟩,0,0⟩)
def dG(ps:List Prd)(B:ByteArray)(r:Rul):ByteArray:=
 if bJ ps r.head.pred=0 then B++dr ps r.head
 else if 0<=r.src then B++dr ps r.head++⟨#[32,61,32]⟩++⟨#[35]⟩++b_ r.src++⟨#[43]⟩++b_ r.n
 else B++dr ps r.head++⟨#[32,61,32]⟩++b_ r.n
def iO(ps:List Prd)(B:ByteArray)(k:Nat)(l:Ltr):ByteArray:=
 if l.neg then B++(if k=0 then⟨#[32,58,45,32]⟩ else⟨#[44,32]⟩)++⟨#[33]⟩++dr ps l.atom
 else B++(if k=0 then⟨#[32,58,45,32]⟩ else⟨#[44,32]⟩)++dr ps l.atom
def dt(ps:List Prd)(B:ByteArray)(ls:List Ltr):Nat->ByteArray
 |0=>B
 |k+1=>iO ps (dt ps B ls k) k (ls.getD k ⟨false,⟨0,[]⟩⟩)
def yJ(ps:List Prd)(B:ByteArray)(r:Rul):ByteArray:=dt ps (dG ps B r) r.body r.body.length++⟨#[46,10]⟩
def iA(ps:List Prd)(B:ByteArray)(rs:List Rul):Nat->ByteArray
 |0=>B
 |k+1=>yJ ps (iA ps B rs k) (rs.getD k ⟨⟨0,[]⟩,0,0,[]⟩)
def ko(ps:List Prd)(rs:List Rul):ByteArray:=iA ps (jY ps ps) rs rs.length
structure bg (ps:List Prd) (a:Atm):Prop where
 there:∃e:Nat,a.pred=(e:Int)/\e<ps.length
 args:∀t∈a.args,xU t
 few:a.args.length<=500
structure bh (ps:List Prd) (rs:List Rul):Prop where
 preds:ps.length<=500
 rules:rs.length<=500
 name:∀q∈ps,q.name.size<=8
 arity:∀q∈ps,0<=q.arity/\q.arity<=99
 kind:∀q∈ps,0<=q.kind/\q.kind<=99
 head:∀r∈rs,bg ps r.head
 src:∀r∈rs,r.src<=99
 n:∀r∈rs,0<=r.n/\r.n<=99
 few:∀r∈rs,r.body.length<=500
 body:∀r∈rs,∀l∈r.body,bg ps l.atom
theorem oD{a}(c:∀b∈a,b.name.size<=8)(p):(ei a p).size<=8:=by
 unfold ei;cases e:a[p.toNat]? with
 |none=>exact zero_le _
 |some b=>exact c b (List.mem_of_getElem? e)
theorem qx{b}(c:∀d∈b,d.name.size<=8){a}(f:a.args.length<=500):(dr b a).size<=1509:=by
 have:=DS (oD c a.pred);omega
theorem ZV(h:p:=by
 simp only[size_append]
 have e1:(⟨#[112,114,101,100,32]⟩:ByteArray).size=5:=rfl
 have e2:(⟨#[32]⟩:ByteArray).size=1:=rfl
 have e3:(⟨#[10]⟩:ByteArray).size=1:=rfl
 omega):p:=h
theorem OY{B a}(b:a.name.size<=8):(qH B a).size<=B.size+20:=by
 unfold qH;have c:=gF a.arity;have d:=gF a.kind;exact ZV
theorem EX{a}(c:∀b∈a,b.name.size<=8):∀k,(jY a k).size<=k*20
 |0=>zero_le _
 |k+1=>by
  have ih:=EX c k
  have d:(a.getD k ⟨⟨#[]⟩,0,0⟩).name.size<=8:=by
   rw[getD]
   cases e:a[k]? with
   |none=>exact zero_le _
   |some b=>exact c b (List.mem_of_getElem? e)
  have:=OY (B:=jY a k) d
  rw[jY]
  omega
theorem El{b}(c:∀f∈b,f.name.size<=8){B a}(d:a.head.args.length<=500):(dG b B a).size<=B.size+1600:=by
 have j:=qx c d;have k:=gF a.src;have l:=gF a.n;have g:(⟨#[32,61,32]⟩:ByteArray).size=3:=rfl;have h:(⟨#[35]⟩:ByteArray).size=1:=rfl;have i:(⟨#[43]⟩:ByteArray).size=1:=rfl;unfold dG;split
 .simp only[size_append];omega
 split<;>simp only[size_append]<;>omega
theorem OG{a}(b:∀d∈a,d.name.size<=8){B k l}(c:l.atom.args.length<=500):(iO a B k l).size<=B.size+1600:=by
 have h:=qx b c;have f:(if k=0 then(⟨#[32,58,45,32]⟩:ByteArray) else⟨#[44,32]⟩).size<=4:=by split<;>decide
 have g:(⟨#[33]⟩:ByteArray).size=1:=rfl;unfold iO;split<;>simp only[size_append]<;>omega
theorem yd{a}(c:∀b∈a,b.name.size<=8){B ls}(d:∀l∈ls,l.atom.args.length<=500):∀k,(dt a B ls k).size<=B.size+k*1600
 |0=>by simp[dt]
 |k+1=>by
  have ih:=yd (B:=B) c d k
  have f:(ls.getD k ⟨false,⟨0,[]⟩⟩).atom.args.length<=500:=by
   rw[getD]
   cases e:ls[k]? with
   |none=>simp
   |some b=>exact d b (List.mem_of_getElem? e)
  have:=OG (B:=dt a B ls k) (k:=k) c f
  rw[dt]
  omega
theorem E_{d a}(c:bh d a)(b):∀k,k<=a.length->(iA d b a k).size<=b.size+k*1000000
 |0,_=>by simp[iA]
 |k+1,o=>by
  have ih:=E_ c b k Q0
  have f:a[k]' Q0∈a:=getElem_mem _
  have e:a.getD k ⟨⟨0,[]⟩,0,0,[]⟩=a[k]' Q0:=by rw[getD,getElem?_eq_getElem Q0];rfl
  rw[iA,e,yJ,size_append]
  have l:=El (B:=iA d b a k) c.name (c.head _ f).few
  have m:=yd (B:=dG d (iA d b a k) (a[k]' Q0)) c.name (ls:=(a[k]' Q0).body) (λi h=>(c.body _ f i h).few) (a[k]' Q0).body.length
  have g:=c.few _ f
  have j:(⟨#[46,10]⟩:ByteArray).size=2:=rfl
  have n:(a[k]' Q0).body.length*1600<=500*1600:=Nat.mul_le_mul_right _ g
  omega
def bG(b:ByteArray):List UInt8:=b.data.toList
theorem d_(a b):bG (a++b)=bG a++bG b:=by
 unfold bG;rw[ByteArray.data_append,Array.toList_append]
theorem kj{a b}(c:bG a=bG b):a=b:=ext (Array.toList_inj.1 c)
theorem cD(a):(bG a).length=a.size:=by unfold bG;rfl
def dS:List Tm->Nat->List UInt8
 |[],_=>[]
 |t::ts,k=>(if k=0 then 40 else 44)::(bG (dO t)++dS ts (k+1))
def c_(ps:List Prd)(a:Atm):List UInt8:=bG (ei ps a.pred)++dS a.args 0++if a.args=[] then[] else[41]
def fk(q:Prd):List UInt8:=[112,114,101,100,32]++bG q.name++[32]++bG (b_ q.arity)++[32]++bG (b_ q.kind)++[10]
def eI(ps:List Prd)(r:Rul):List UInt8:=
 if bJ ps r.head.pred=0 then[] else if 0<=r.src then[32,61,32,35]++bG (b_ r.src)++[43]++bG (b_ r.n) else[32,61,32]++bG (b_ r.n)
def cW(ps:List Prd):List Ltr->Nat->List UInt8
 |[],_=>[]
 |l::ls,k=>(if k=0 then[32,58,45,32] else[44,32])++(if l.neg then[33] else[])++c_ ps l.atom++cW ps ls (k+1)
def eT(ps:List Prd)(r:Rul):List UInt8:=c_ ps r.head++eI ps r++cW ps r.body 0++[46,10]
def iw(ps:List Prd)(rs:List Rul):List UInt8:=ps.flatMap fk++rs.flatMap (eT ps)
theorem R7(h:p:=by rw[getD,getElem?_eq_getElem hlt];rfl):p:=h
theorem DR(f c):∀k,k<=c.args.length->bG (gq f c k)=bG (ei f c.pred)++dS (c.args.take k) 0:=by
 have h:∀(b:List Tm) (d:Tm) (a:Nat),dS (b++[d]) a=dS b a++(if a+b.length=0 then 40 else 44)::bG (dO d):=by
  intro b;induction b with
  |nil=>intro d a;simp[dS]
  |cons j b ih=>
   intro d a;simp only[cons_append,dS,ih d (a+1),length_cons,append_assoc];rw[show a+1+b.length=a+(b.length+1) by omega]
 intro k;induction k with
 |zero=>intro _;simp[gq,dS]
 |succ k ih=>
  intro i;have hlt:k<c.args.length:=Q0;have e:c.args.getD k ⟨false,0⟩=c.args[k]:=R7;rw[gq,d_,d_,ih Q0,e,List.take_succ_eq_append_getElem hlt,h,List.length_take,Nat.min_eq_left Q0,Nat.zero_add];have g:bG (if k=0 then(⟨#[40]⟩:ByteArray) else⟨#[44]⟩)=[if k=0 then 40 else 44]:=by split<;>rfl
  rw[g];simp only[append_assoc,cons_append,nil_append]
theorem lQ(c a):bG (dr c a)=c_ c a:=by
 unfold dr c_;by_cases b:a.args=[]
 .rw[if_neg (by rw[b];simp),if_pos b,DR c a 0 (zero_le _),b];simp[dS]
 have d:=List.length_pos_iff.2 b;rw[if_pos d,if_neg b,d_,DR c a _ (le_refl _),take_length];rfl
theorem MR(a b):bG (qH a b)=bG a++fk b:=by
 unfold qH fk;simp only[d_,append_assoc];rfl
theorem MS(a):∀k,k<=a.length->bG (jY a k)=(a.take k).flatMap fk:=by
 intro k;induction k with
 |zero=>intro _;rfl
 |succ k ih=>
  intro b;have hlt:k<a.length:=Q0;have e:a.getD k ⟨⟨#[]⟩,0,0⟩=a[k]:=R7;rw[jY,MR,ih Q0,e,List.take_succ_eq_append_getElem hlt,List.flatMap_append];simp
theorem MP(a c b):bG (dG a c b)=bG c++c_ a b.head++eI a b:=by
 unfold dG eI;split
 .rw[d_,lQ,List.append_nil]
 split
 .simp only[d_,lQ,append_assoc];rfl
 simp only[d_,lQ,append_assoc];rfl
theorem EI(c):∀(b:List Ltr) (l:Ltr) (a:Nat),cW c (b++[l]) a=cW c b a++((if a+b.length=0 then[32,58,45,32] else[44,32])++(if l.neg then[33] else[])++c_ c l.atom):=by
 intro b;induction b with
 |nil=>intro l a;simp[cW]
 |cons d b ih=>
  intro l a;simp only[cons_append,cW,ih l (a+1),length_cons,append_assoc];rw[show a+1+b.length=a+(b.length+1) by omega]
theorem MN(d b a):∀k,k<=a.length->bG (dt d b a k)=bG b++cW d (a.take k) 0:=by
 intro k;induction k with
 |zero=>intro _;simp[dt,cW]
 |succ k ih=>
  intro g;have hlt:k<a.length:=Q0;have e:a.getD k ⟨false,⟨0,[]⟩⟩=a[k]:=R7;have c:bG (if k=0 then(⟨#[32,58,45,32]⟩:ByteArray) else⟨#[44,32]⟩)=if k=0 then[32,58,45,32] else[44,32]:=by split<;>rfl
  have f:bG (⟨#[33]⟩:ByteArray)=[33]:=rfl;rw[dt,e,List.take_succ_eq_append_getElem hlt,EI,List.length_take,Nat.min_eq_left Q0,Nat.zero_add,iO];split
  .simp only[d_,lQ,ih Q0,c,f,append_assoc]
  simp only[d_,lQ,ih Q0,c,append_assoc,nil_append]
theorem MT(b c a):∀k,k<=a.length->bG (iA b c a k)=bG c++(a.take k).flatMap (eT b):=by
 intro k;induction k with
 |zero=>intro _;simp[iA]
 |succ k ih=>
  intro f;have hlt:k<a.length:=Q0;have e:a.getD k ⟨⟨0,[]⟩,0,0,[]⟩=a[k]:=R7;have d:bG (⟨#[46,10]⟩:ByteArray)=[46,10]:=rfl;rw[iA,e,yJ,d_,MN b _ _ _ (le_refl _),take_length,MP,ih Q0,List.take_succ_eq_append_getElem hlt,List.flatMap_append,d];simp[eT]
theorem uX(a b):bG (ko a b)=iw a b:=by
 rw[ko,MT a _ b _ (le_refl _),MS a _ (le_refl _),take_length,take_length];rfl
def eP(b:UInt8):Bool:=decide (97<=b.toNat)&&decide (b.toNat<=122)
def ee(b:UInt8):Bool:=decide (48<=b.toNat)&&decide (b.toNat<=57)
def f8(p:UInt8->Bool)(s:List UInt8):Option (List UInt8×List UInt8):=match s.takeWhile p with
 |[]=>none
 |r=>some (r,s.dropWhile p)
theorem iQ{p:UInt8->Bool}{s b c}(a:f8 p s=some (b,c)):s=b++c/\b≠[]/\b.all p=true/\(c.head?.map p).getD false=false:=by
 unfold f8 at a;split at a
 .cases a
 rename_i hne;simp only[injEq,Prod.mk.injEq] at a;obtain⟨rfl,rfl⟩:=a;refine⟨(List.takeWhile_append_dropWhile).symm,λe=>hne e,?_,?_⟩
 .exact List.all_eq_true.2 λg hx=>by
   induction s with
   |nil=>cases hx
   |cons f s ih=>
    rw[List.takeWhile_cons] at hx;split at hx
    .rename_i hy;rcases List.mem_cons.1 hx with rfl|hx
     .exact hy
     by_cases d:s.takeWhile p=[]
     .rw[d] at hx;cases hx
     exact ih (λe=>d e) hx
    cases hx
 clear hne;induction s with
 |nil=>rfl
 |cons f s ih=>
  rw[List.dropWhile_cons];split
  .exact ih
  rename_i hy;simpa using hy
theorem sS{p:UInt8->Bool}{a t}(d:a≠[])(f:a.all p=true)(h3:(t.head?.map p).getD false=false):f8 p (a++t)=some (a,t):=by
 have l:∀a:List UInt8,a.all p=true->(a++t).takeWhile p=a/\(a++t).dropWhile p=t:=by
  intro a;induction a with
  |nil=>
   intro _;cases t with
   |nil=>exact⟨rfl,rfl⟩
   |cons c t=>
    have g:p c=false:=RJ;simp[g]
  |cons c a ih=>
   intro b;simp only[all_cons,and_eq_true] at b;obtain⟨h,i⟩:=ih b.2;simp[b.1,h,i]
 obtain⟨j,k⟩:=l a f;unfold f8;rw[j,k];cases a with
 |nil=>exact absurd rfl d
 |cons c a=>rfl
def dV:List UInt8->Int->Int
 |[],n=>n
 |b::s,n=>dV s (10*n+((b.toNat:Int)-48))
def ek(s:List UInt8):Option (Int×List UInt8):=match f8 ee s with
 |none=>none
 |some (r,t)=>if 6<r.length\/(1<r.length/\r.head?=some 48) then none else some (dV r 0,t)
theorem R8(h:p:=by decide):p:=h
theorem Nr:∀k:Fin 100,ek (bG (b_ (k.val:Int)))=some ((k.val:Int),[]):=R8
theorem ms{s c n}(a:ek s=some (n,c)):∃b,f8 ee s=some (b,c)/\b.length<=6/\(1<b.length->b.head?≠some 48)/\dV b 0=n:=by
 unfold ek at a;split at a
 .cases a
 rename_i b t' hr;split at a
 .cases a
 rename_i hc;simp only[injEq,Prod.mk.injEq] at a;obtain⟨rfl,rfl⟩:=a;exact⟨b,hr,Q0,λd f=>hc (.inr ⟨d,f⟩),rfl⟩
theorem qD{n}(o:0<=n)(q:n<=99){t}(m:(t.head?.map ee).getD false=false):ek (bG (b_ n)++t)=some (n,t):=by
 obtain⟨a,rfl⟩:∃a:Nat,n=(a:Int):=⟨n.toNat,Q0⟩;obtain⟨c,i,p,j,k⟩:=ms (Nr ⟨a,Q0⟩);obtain⟨e,f,g,_⟩:=iQ i;rw[List.append_nil] at e;have d:bG (b_ (a:Int))=c:=e;have l:dV c 0=(a:Int):=k;rw[d];unfold ek;rw[sS f g m];show(if _ then _ else _)=_;rw[if_neg (by rintro(b|⟨b,h⟩);omega;exact j b h),l]
theorem vx:∀(a:List UInt8) (n:Int),a.all ee=true->0<=n->n<=dV a n
 |[],n,_,_=>Int.le_refl _
 |b::a,n,c,f=>by
  simp only[all_cons,and_eq_true] at c
  have d:48<=b.toNat:=by have:=c.1;unfold ee at this;simp at this;exact this.1
  have:=vx a (10*n+((b.toNat:Int)-48)) c.2 Q0
  rw[dV]
  omega
theorem R9(h:p:=by apply toNat_inj.1;rw[toNat_ofNat'];omega):p:=h
theorem sG{s o n}(j:ek s=some (n,o))(z:n<=99):s=bG (b_ n)++o/\0<=n/\(o.head?.map ee).getD false=false:=by
 obtain⟨k,u,y,i,d⟩:=ms j;obtain⟨rfl,r,c,t⟩:=iQ u;have g:∀b:UInt8,ee b=true->48<=b.toNat/\b.toNat<=57:=λb j=>by unfold ee at j;simpa using j
 refine⟨?_,?_,t⟩
 .congr 1;match k,r,c,i,d with
  |[b],_,c,_,d=>
   have q:=g b (by simpa using c);have m:n=(b.toNat:Int)-48:=by rw[<-d];simp[dV]
   obtain⟨a,l,rfl⟩:∃a:Nat,a<10/\b=UInt8.ofNat (48+a):=⟨b.toNat-48,Q0,R9⟩;subst m;have:∀a:Fin 10,[UInt8.ofNat (48+a.val)]=bG (b_ (((UInt8.ofNat (48+a.val)).toNat:Int)-48)):=R8;exact this ⟨a,l⟩
  |[b,f],_,c,i,d=>
   simp only[all_cons,List.all_nil,Bool.and_true,and_eq_true] at c;have q:=g b c.1;have v:=g f c.2;have m:n=10*((b.toNat:Int)-48)+((f.toNat:Int)-48):=by rw[<-d];simp[dV]
   obtain⟨h,w,rfl⟩:∃a:Nat,a<10/\b=UInt8.ofNat (48+a):=⟨b.toNat-48,Q0,R9⟩;obtain⟨a,l,rfl⟩:∃a:Nat,a<10/\f=UInt8.ofNat (48+a):=⟨f.toNat-48,Q0,R9⟩;have x:h≠0:=λe=>i Q1 (by subst e;rfl);subst m;have:∀h a:Fin 10,h.val≠0->[UInt8.ofNat (48+h.val),UInt8.ofNat (48+a.val)]=bG (b_ (10*(((UInt8.ofNat (48+h.val)).toNat:Int)-48)+(((UInt8.ofNat (48+a.val)).toNat:Int)-48))):=R8;exact this ⟨h,w⟩ ⟨a,l⟩ x
  |b::f::p::k,_,c,i,d=>
   simp only[all_cons,and_eq_true] at c;have q:=g b c.1;have v:=g f c.2.1;have B:=g p c.2.2.1;have A:b.toNat≠48:=λe=>i Q1 (by rw[List.head?_cons];congr 1;apply toNat_inj.1;exact e);have C:=vx k (10*(10*(10*0+((b.toNat:Int)-48))+((f.toNat:Int)-48))+((p.toNat:Int)-48)) c.2.2.2 Q0;simp only[dV] at d;omega
 rw[<-d];exact vx k 0 c (Int.le_refl _)
def bT:List UInt8->List UInt8->Option (List UInt8)
 |[],s=>some s
 |_::_,[]=>none
 |a::p,b::s=>if a=b then bT p s else none
theorem gi:∀{p s b:List UInt8},bT p s=some b↔s=p++b
 |[],s,b=>by simp[bT]
 |a::p,[],b=>by simp[bT]
 |a::p,d::s,b=>by
  rw[bT]
  by_cases c:a=d
  .subst c
   rw[if_pos rfl,gi]
   simp
  rw[if_neg c]
  simp only[reduceCtorEq,cons_append,List.cons.injEq,false_iff]
  exact λe=>c e.1.symm
theorem jU(p a):bT p (p++a)=some a:=gi.2 rfl
def jj:List UInt8->Option (Tm×List UInt8)
 |[]=>none
 |b::s=>if 65<=b.toNat/\b.toNat<=67 then some (⟨true,(b.toNat:Int)-65⟩,s) else if 48<=b.toNat/\b.toNat<=52 then some (⟨false,(b.toNat:Int)-48⟩,s) else none
theorem yV:∀k:Fin 3,bG (dO ⟨true,(k.val:Int)⟩)=[UInt8.ofNat (65+k.val)]:=R8
theorem yj:∀k:Fin 5,bG (dO ⟨false,(k.val:Int)⟩)=[UInt8.ofNat (48+k.val)]:=R8
theorem ye{b n}(a:b.toNat=n):b=UInt8.ofNat n:=by
 apply toNat_inj.1;have:=b.toNat_lt;rw[toNat_ofNat',a];omega
theorem R_(h:p:=by simp[db,bQ];omega):p:=h
theorem vB{s f d}(b:jj s=some (d,f)):s=bG (dO d)++f/\db d=true:=by
 cases s with
 |nil=>cases b
 |cons a s=>
  rw[jj] at b;split at b
  .rename_i hb;simp only[injEq,Prod.mk.injEq] at b;obtain⟨rfl,rfl⟩:=b;have e:=yV ⟨a.toNat-65,Q0⟩;have c:((a.toNat-65:Nat):Int)=(a.toNat:Int)-65:=Q0;simp only[c] at e;rw[e,<-ye (b:=a) Q0];exact⟨rfl,R_⟩
  split at b
  .rename_i hb;simp only[injEq,Prod.mk.injEq] at b;obtain⟨rfl,rfl⟩:=b;have e:=yj ⟨a.toNat-48,Q0⟩;have c:((a.toNat-48:Nat):Int)=(a.toNat:Int)-48:=Q0;simp only[c] at e;rw[e,<-ye (b:=a) Q0];exact⟨rfl,R_⟩
  cases b
theorem vA{b}(c:db b=true)(g):jj (bG (dO b)++g)=some (b,g):=by
 obtain⟨h,f⟩:=b;simp only[db,bQ,and_eq_true,decide_eq_true_eq] at c;obtain⟨a,rfl⟩:∃a:Nat,f=(a:Int):=⟨f.toNat,Q0⟩;cases h with
 |true=>
  simp only[if_true] at c;have e:=yV ⟨a,Q0⟩;simp only at e;rw[e];have d:(UInt8.ofNat (65+a)).toNat=65+a:=by rw[toNat_ofNat'];omega
  rw[cons_append,nil_append,jj,d,if_pos Q0];simp;omega
 |false=>
  simp only[Bool.false_eq_true,if_false] at c;have e:=yj ⟨a,Q0⟩;simp only at e;rw[e];have d:(UInt8.ofNat (48+a)).toNat=48+a:=by rw[toNat_ofNat'];omega
  rw[cons_append,nil_append,jj,d,if_neg Q0,if_pos Q0];simp;omega
def iu:Nat->Nat->List UInt8->Option (List Tm×List UInt8)
 |0,_,s=>some ([],s)
 |n+1,k,s=>(bT [if k=0 then 40 else 44] s).bind λs1=>(jj s1).bind λx=>(iu n (k+1) x.2).bind λy=>some (x.1::y.1,y.2)
theorem xV:∀{n k:Nat} {s c:List UInt8} {b:List Tm},iu n k s=some (b,c)->s=dS b k++c/\b.length=n/\b.all db=true
 |0,k,s,c,b,a=>by
  rw[iu,injEq,Prod.mk.injEq] at a
  obtain⟨rfl,rfl⟩:=a
  exact⟨rfl,rfl,rfl⟩
 |n+1,k,s,c,b,a=>by
  rw[iu] at a
  obtain⟨p,h,a⟩:=bind_eq_some_iff.1 a
  obtain⟨⟨t,q⟩,i,a⟩:=bind_eq_some_iff.1 a
  obtain⟨⟨u,r⟩,j,a⟩:=bind_eq_some_iff.1 a
  rw[injEq,Prod.mk.injEq] at a
  obtain⟨rfl,rfl⟩:=a
  obtain⟨d,l,o⟩:=xV j
  obtain⟨g,m⟩:=vB i
  have f:=gi.1 h
  refine⟨?_,by simp[l],by simp[m,o]⟩
  rw[f,g]
  simp only at d
  rw[d,dS]
  simp
theorem DQ:∀{a:List Tm} (k:Nat) (b:List UInt8),a.all db=true->iu a k (dS a k++b)=some (a,b)
 |[],k,b,_=>rfl
 |t::a,k,b,c=>by
  simp only[all_cons,and_eq_true] at c
  have d:dS (t::a) k++b=[if k=0 then 40 else 44]++(bG (dO t)++(dS a (k+1)++b)):=by simp[dS]
  rw[length_cons,iu,d,jU,Option.bind_some,vA c.1,Option.bind_some]
  simp only
  rw[DQ (k+1) b c.2]
  rfl
def nG(ts:List Tm)(s:List UInt8):Option (List UInt8):=if ts=[] then some s else bT [41] s
def oy(ps:List Prd)(r:List UInt8):Option Nat:=ps.findIdx? λq=>decide (bG q.name=r)
def eH(ps:List Prd)(s:List UInt8):Option (Atm×List UInt8):=
 (f8 eP s).bind λx=>(oy ps x.1).bind λk=>(iu (dN ps k).toNat 0 x.2).bind λy=>(nG y.1 y.2).bind λu=>some (⟨(k:Int),y.1⟩,u)
structure ao (ps:List Prd) (a:Atm):Prop where
 there:∃k:Nat,k<ps.length/\a.pred=(k:Int)
 many:a.args.length=(dN ps a.pred).toNat
 terms:a.args.all db=true
theorem En{a d k}(b:oy a d=some k):k<a.length/\bG (ei a (k:Int))=d:=by
 unfold oy at b;obtain⟨c,f,_⟩:=List.findIdx?_eq_some_iff_getElem.1 b;refine⟨c,?_⟩;unfold ei;rw[Int.toNat_natCast,getElem?_eq_getElem c];simpa using f
theorem sl{d s h c}(a:eH d s=some (c,h)):s=c_ d c++h/\ao d c:=by
 unfold eH at a;obtain⟨⟨q,r⟩,j,a⟩:=bind_eq_some_iff.1 a;obtain⟨n,k,a⟩:=bind_eq_some_iff.1 a;obtain⟨⟨v,t⟩,l,a⟩:=bind_eq_some_iff.1 a;obtain⟨u,b,a⟩:=bind_eq_some_iff.1 a;rw[injEq,Prod.mk.injEq] at a;obtain⟨rfl,rfl⟩:=a;obtain⟨i,_⟩:=iQ j;obtain⟨m,f⟩:=En k;obtain⟨g,o,p⟩:=xV l;refine⟨?_,⟨n,m,rfl⟩,o,p⟩;simp only at f g b;rw[i,g,c_];simp only;rw[f];unfold nG at b;split at b
 .rename_i hn;rw[injEq] at b;rw[if_pos hn,b];simp
 rename_i hn;rw[if_neg hn,gi.1 b];simp
structure ak (ps:List Prd):Prop where
 low:∀q∈ps,bG q.name≠[]/\(bG q.name).all eP=true
 one:∀i j:Nat,i<j->(hj:j<ps.length)->(hi:i<ps.length)->bG ps[i].name≠bG ps[j].name
theorem Sa(h:p:=by unfold ei;rw[Int.toNat_natCast,getElem?_eq_getElem hk];rfl):p:=h
theorem N6{a}(b:ak a){k}(hk:k<a.length):oy a (bG (ei a (k:Int)))=some k:=by
 have e:ei a (k:Int)=a[k].name:=Sa;rw[e];unfold oy;refine List.findIdx?_eq_some_iff_getElem.2 ⟨hk,Q1,λd c=>?_⟩;have:=b.one d k c hk Q0;simpa using this
theorem OI:eP 40=false/\eP 32=false/\eP 46=false/\eP 44=false:=R8
theorem xY{a}(f:ak a){d}(o:ao a d){u}(q:(u.head?.map eP).getD false=false):eH a (c_ a d++u)=some (d,u):=by
 obtain⟨r,b⟩:=d;obtain⟨⟨c,hk,i⟩,g,h⟩:=o;simp only at i g h;subst i;have p:ei a (c:Int)=a[c].name:=Sa;obtain⟨j,k⟩:=f.low a[c] (getElem_mem hk);rw[<-p] at j k;have l:c_ a ⟨(c:Int),b⟩++u=bG (ei a (c:Int))++(dS b 0++((if b=[] then[] else[41])++u)):=by simp[c_]
 have m:f8 eP (bG (ei a (c:Int))++(dS b 0++((if b=[] then[] else[41])++u)))=some (bG (ei a (c:Int)),dS b 0++((if b=[] then[] else[41])++u)):=by
  refine sS j k ?_;cases b with
  |nil=>simpa[dS] using q
  |cons s b=>simp[dS,OI.1]
 unfold eH;rw[l,m,Option.bind_some];simp only;rw[N6 f hk,Option.bind_some,<-g,DQ 0 _ h,Option.bind_some];simp only
 have n:nG b ((if b=[] then[] else[41])++u)=some u:=by
  unfold nG;split
  .rfl
  exact jU _ _
 rw[n];rfl
