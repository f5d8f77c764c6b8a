import Derived.Lib.Strings
import Derived.Test.YtlfccloaoopadagGreatDoorG15
import Derived.Test.YtlfccloaoopadagGreatDoorG29
import Derived.Test.YtlfccloaoopadagGreatDoorG37
import Derived.Test.YtlfccloaoopadagGreatDoorG42
set_option maxRecDepth 100000
set_option maxHeartbeats 0
open Go.Lib (decDigits)
open List (length_append length_cons length_nil map_cons map_map sum_cons)
namespace Go.Proofs.YtlfccloaoopadagGreatDoor
variable{p:Prop}
abbrev dQ:=List Prd×List Rul
def eY(e:Int):List UInt8:=[101,114,114,111,114,32]++decDigits e.toNat
def lX(x:dQ):List Nat:=[(mx x.1 x.2).length,dA x.1 x.2 (cC (bM x.1 x.2))]
def jy(ps:List Prd)(f:List Fct):List UInt8:=if f=[] then[110,111,110,101] else[59,32].intercalate (f.map λy=>bG (dX ps y))
def gT(x:dQ)(r:List UInt8):List UInt8:=match f5 x.1 r with
 |none=>eY 1
 |some a=>jy x.1 (dJ (dg x.1 x.2) a)
def jT(x:dQ)(r:List UInt8):dQ×List UInt8:=match kn r with
 |none=>(x,eY 1)
 |some n=>if eu x.1 x.2 n=0 then((x.1,d7 x.2 n.toNat),[111,107]) else(x,eY (eu x.1 x.2 n))
def qr:List UInt8:=[97,115,107,32]
def qA:List UInt8:=[100,114,111,112,32]
def cq(x:dQ)(ln:List UInt8):dQ×List UInt8:=
 if ln=[109,111,100,101,108] then(x,decDigits (dg x.1 x.2).length)
 else if ln=[115,116,114,97,116,97] then(x,fp (bM x.1 x.2))
 else if ln=[114,111,117,110,100,115] then(x,fp (iW x.1 x.2))
 else if ln=[115,116,101,112,115] then(x,fp (lX x))
 else match bT qr ln with
  |some r=>(x,gT x r)
  |none=>match bT qA ln with
   |some r=>jT x r
   |none=>(x,eY 1)
def gU(x:dQ)(cur:List UInt8):List UInt8->List UInt8
 |[]=>[]
 |b::t=>if b=10 then(cq x cur).2++[10]++gU (cq x cur).1 [] t else gU x (cur++[b]) t
def iP(x:dQ):List (List UInt8)->List UInt8
 |[]=>[]
 |l::ls=>(cq x l).2++[10]++iP (cq x l).1 ls
theorem yH{x:dQ}{b:List UInt8}:∀{a cur:List UInt8},(∀d∈a,d≠10)->gU x cur (a++10::b)=(cq x (cur++a)).2++[10]++gU (cq x (cur++a)).1 [] b
 |[],cur,_=>by rw[List.nil_append,List.append_nil,gU,if_pos rfl]
 |c::a,cur,f=>by
  rw[List.cons_append,gU,if_neg (f c Q1),yH λd hz=>f d Sz,show cur++[c]++a=cur++c::a by simp]
theorem EV{g:dQ}:∀{a d:List UInt8},(∀b∈a,b≠10)->gU g d a=[]
 |[],_,_=>rfl
 |c::a,d,f=>by rw[gU,if_neg (f c Q1),EV λb hz=>f b Sz]
theorem Na:∀(k n:Nat),n<10^(k+1)->(decDigits n).length<=k+1:=by
 intro k;induction k with
 |zero=>intro n a;rw[decDigits,dif_pos Q0];simp
 |succ k ih=>
  intro n a;rw[decDigits];split
  .simp
  rw[length_append,List.length_singleton];have:=ih (n/10) (by rw[Nat.pow_succ] at a;omega);omega
structure aT (l:List Nat):Prop where
 few:l.length<=5
 low:∀n∈l,n<=100000000
theorem Fh{a:List Prd}{b:List Rul}(h:bP a b=0):cC (bM a b)<=5:=by
 have:=wN a b;unfold ik at this;rwa[if_neg RM] at this
theorem sJ{a:List Prd}{b:List Rul}(h:bP a b=0):aT (bM a b):=by
 obtain⟨l1,d⟩:=iq h;obtain⟨g,i,z3⟩:=gN (gO h).1;refine⟨Q0,λf c=>?_⟩;obtain⟨k,hk,e⟩:=List.getElem_of_mem c;exact ZF
theorem sH{c:List Prd}{d:List Rul}(b:bP c d=0):aT (iW c d):=by
 have f:=Fh b;unfold iW il;refine⟨by simpa using f,λh g=>?_⟩;obtain⟨a,_,rfl⟩:=List.mem_map.1 g;have:=wQ (s:=(a:Int)) (kF b a);omega
theorem oA{a:List Prd}{b:List Rul}(h:bP a b=0)(c:Nat):bW a (cQ a b c)=0/\(cQ a b c).length<=125:=by
 have:=kF h c;unfold bS at this;rw[if_neg RM] at this;exact⟨this,mB this⟩
theorem sI{x:dQ}(a:bP x.1 x.2=0):aT (lX x):=by
 have d:=Fh a;refine⟨by simp[lX],λf hn=>?_⟩;rcases List.mem_cons.1 hn with rfl|hn
 .have b:=(vN a (cC (bM x.1 x.2))).1;rw[FD a] at b;have c:=ke (oA a (cC (bM x.1 x.2))).1;rw[oW] at c;exact Nat.le_trans b (Nat.le_trans c Q0)
 rw[List.mem_singleton] at hn;have:=uC a (cC (bM x.1 x.2));have:cC (bM x.1 x.2)*2002000<=5*2002000:=Nat.mul_le_mul_right _ d;omega
theorem yO{d:Type}(f:d->Nat)(b:Nat):∀a:List d,(∀x∈a,f x<=b)->(a.map f).sum<=a.length*b
 |[],_=>Q1
 |x::a,c=>by
  have:=yO f b a λg hy=>c g Rn
  have:=c x Q1
  simp only[map_cons,sum_cons,length_cons]
  rw[Nat.add_mul]
  omega
theorem su{n:Nat}(a:n<=100000000):(decDigits n).length<=9:=Na 8 n (Nat.lt_of_le_of_lt a QY)
theorem qC{l:List Nat}(a:aT l):(fp l).length<=4000:=by
 have b:=sE [32] (l.map decDigits)
 have f:((l.map decDigits).map List.length).sum<=l.length*9:=by
  rw[map_map];exact yO _ 9 l λd c=>su (a.low d c)
 rw[List.length_map,List.length_singleton] at b;have:=a.few;unfold fp;omega
theorem yR{a:List Prd}{h:List Rul}{f:List Fct}(c:bP a h=0)(d:bW a f=0):∀b∈f,aF a b:=λb g=>Fl (kA d b g) (iz c).arity
theorem Ei{c:List Prd}{h:List Rul}{b:List Fct}(d:bP c h=0)(f:∀a∈b,aF c a):((b.map λa=>bG (dX c a)).map List.length).sum<=b.length*20:=by
 rw[map_map];refine yO _ 20 b λa g=>?_;show(bG (dX c a)).length<=20;rw[cD];exact vg (iz d).name (f a g)
theorem Fm{b:List Prd}{h:List Rul}{a:List Fct}(f:bP b h=0)(g:∀c∈a,aF b c)(j:a.length<=125):(jy b a).length<=4000:=by
 unfold jy;split
 .decide
 have d:=sE [59,32] (a.map λc=>bG (dX b c));have i:=Ei f g;rw[List.length_map] at d;simp only[length_cons,length_nil] at d;omega
theorem NL{b:List Prd}{g:List Rul}{a:List Fct}(d:bP b g=0)(f:∀c∈a,aF b c)(j:a.length<=125):(jf b a).length<=4000:=by
 have:∀a:List Fct,(jf b a).length=((a.map λc=>bG (dX b c)).map List.length).sum+a.length*2:=λa=>by
  induction a with
  |nil=>rfl
  |cons c a ih=>
   unfold jf at ih⊢;rw[List.flatMap_cons,length_append,ih,length_append];simp only[map_cons,sum_cons,length_cons,length_nil];omega
 have h:=Ei d f;have i:=this a;omega
theorem Qb(s p:List UInt8):(Lib.trimSuffix s p).length<=s.length:=by
 unfold Lib.trimSuffix;split
 .rw[List.length_take];omega
 omega
theorem sC{e:Int}(a:e<=1000):(eY e).length<=4000:=by
 have:=su (n:=e.toNat) Q0;unfold eY;rw[length_append];exact abf
theorem yX{a:List Prd}{b:List Rul}(h:bP a b=0)(n:Int):eu a b n=0\/eu a b n=7:=by
 unfold eu;rw[if_neg RM];split
 .exact .inr rfl
 exact .inl rfl
theorem ym{b:List Prd}{c:List Rul}(a:bP b c=0)(k:Nat):bP b (d7 c k)=0:=by
 refine(IK a (λd hr=>?_) ?_).1
 .unfold d7 at hr;rcases List.mem_append.1 hr with hr|hr
  .exact List.mem_of_mem_take hr
  exact List.mem_of_mem_drop hr
 have:=(iz a).rules;unfold d7;rw[length_append,List.length_take,List.length_drop];omega
theorem Mz{b:dQ}(a:bP b.1 b.2=0)(d:List UInt8):bP (cq b d).1.1 (cq b d).1.2=0/\(cq b d).2.length<=4000:=by
 have c:=oA a (cC (bM b.1 b.2));unfold cq;split
 .refine⟨a,?_⟩;have:=su (n:=(dg b.1 b.2).length) (Nat.le_trans c.2 Q0);show(decDigits _).length<=4000;omega
 split
 .exact⟨a,qC (sJ a)⟩
 split
 .exact⟨a,qC (sH a)⟩
 split
 .exact⟨a,qC (sI a)⟩
 split
 .refine⟨a,?_⟩;unfold gT;split
  .exact sC Q0
  exact Fm a (λg f=>yR a c.1 g (List.mem_filter.1 f).1) (Nat.le_trans (List.length_filter_le _ _) c.2)
 split
 .unfold jT;split
  .exact⟨a,sC Q0⟩
  rename_i n _;split
  .exact⟨ym a _,Q1⟩
  rcases yX a n with e|e
  .exact⟨a,sC Q0⟩
  exact⟨a,sC Q0⟩
 exact⟨a,sC Q0⟩
