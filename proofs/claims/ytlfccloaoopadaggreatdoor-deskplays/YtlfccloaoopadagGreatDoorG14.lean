import Derived.Test.YtlfccloaoopadagGreatDoorG11
import Derived.Test.YtlfccloaoopadagGreatDoorG13
set_option maxRecDepth 100000
set_option maxHeartbeats 0
open Go.Proofs.Tryz
open Bool (and_eq_true false_eq_true)
open List (all_cons all_eq_true any_eq_true append_assoc append_nil cons_append drop_zero flatMap_cons getD getElem?_eq_getElem getElem_mem length_append length_cons mem_append mem_cons mem_cons_of_mem mem_cons_self mem_singleton nil_append)
open Nat (add_zero le_refl le_trans lt_of_lt_of_le mul_le_mul_right zero_le zero_mul)
open Option (bind_eq_some_iff map_some)
open Option.some (injEq)
namespace Go.Proofs.YtlfccloaoopadagGreatDoor
variable{p:Prop}
def kS:List UInt8:=[112,114,101,100,32]
def jV(s:List UInt8):Bool:=(bT kS s).isSome&& !(bT (kS++[61]) s).isSome&& !(bT (kS++[58]) s).isSome
def e8(s:List UInt8):Option (Prd×List UInt8):=
 (bT kS s).bind λs=>(f8 eP s).bind λx=>(bT [32] x.2).bind λs=>(ek s).bind λy=>(bT [32] y.2).bind λs=>(ek s).bind λz=>(bT [10] z.2).bind λs=>
  some (⟨⟨x.1.toArray⟩,y.1,z.1⟩,s)
theorem x_(a):bG ⟨a.toArray⟩=a:=by unfold bG;simp
theorem ER(a):(⟨(bG a).toArray⟩:ByteArray)=a:=kj (x_ _)
theorem O6{s i b}(a:e8 s=some (b,i))(g:b.arity<=99)(h:b.kind<=99):s=fk b++i:=by
 unfold e8 at a;obtain⟨r,m,a⟩:=bind_eq_some_iff.1 a;obtain⟨⟨q,t⟩,n,a⟩:=bind_eq_some_iff.1 a;obtain⟨u,c,a⟩:=bind_eq_some_iff.1 a;obtain⟨⟨z,v⟩,o,a⟩:=bind_eq_some_iff.1 a;obtain⟨w,d,a⟩:=bind_eq_some_iff.1 a;obtain⟨⟨A,x⟩,p,a⟩:=bind_eq_some_iff.1 a;obtain⟨y,f,a⟩:=bind_eq_some_iff.1 a;rw[injEq,Prod.mk.injEq] at a;obtain⟨rfl,rfl⟩:=a;simp only at g h c d f;obtain⟨j,_⟩:=iQ n;obtain⟨k,_⟩:=sG o g;obtain⟨l,_⟩:=sG p h;rw[gi.1 m,j,gi.1 c,k,gi.1 d,l,gi.1 f,fk];simp only[x_,append_assoc];rfl
theorem Ef(n)(d:0<=n)(g:n<=99):∃a b,bG (b_ n)=a::b/\ee a=true:=by
 have:=qD d g (t:=[]) rfl;rw[append_nil] at this;obtain⟨i,f,_⟩:=ms this;obtain⟨e,h,c,_⟩:=iQ f;rw[append_nil] at e;cases i with
 |nil=>exact absurd rfl h
 |cons a b=>exact⟨a,b,e,by simp only[all_cons,and_eq_true] at c;exact c.1⟩
theorem vh{p:UInt8->Bool}{a}(c)(b:p a=false):(([a]++c).head?.map p).getD false=false:=b
theorem O4{a}(f:bG a.name≠[]/\(bG a.name).all eP=true)(c:0<=a.arity/\a.arity<=99)(d:0<=a.kind/\a.kind<=99)(b):e8 (fk a++b)=some (a,b):=by
 have e:fk a++b=kS++(bG a.name++([32]++(bG (b_ a.arity)++([32]++(bG (b_ a.kind)++([10]++b)))))):=by simp[fk,kS]
 unfold e8;rw[e,jU,Option.bind_some,sS f.1 f.2 (vh _ R8),Option.bind_some];simp only;rw[jU,Option.bind_some,qD c.1 c.2 (vh _ R8),Option.bind_some];simp only;rw[jU,Option.bind_some,qD d.1 d.2 (vh _ R8),Option.bind_some];simp only;rw[jU,Option.bind_some,ER]
theorem SO(h:p:=by rintro rfl;exact absurd h2.1 (by decide)):p:=h
theorem N_{a}(h:bG a.name≠[]/\(bG a.name).all eP=true)(i):jV (fk a++i)=true:=by
 obtain⟨d,h2⟩:=h;cases b:bG a.name with
 |nil=>exact absurd b d
 |cons c j=>
  rw[b] at h2;simp only[all_cons,and_eq_true] at h2;have g:(61:UInt8)≠c:=SO;have f:(58:UInt8)≠c:=SO;simp[jV,fk,kS,b,bT,g,f]
def gu(k:Int)(s:List UInt8):Option ((Int×Int)×List UInt8):=
 if k=0 then some ((-1,0),s)
 else(bT [32,61,32] s).bind λs=>match bT [35] s with
  |some s=>(ek s).bind λx=>(bT [43] x.2).bind λs=>(ek s).bind λy=>some ((x.1,y.1),y.2)
  |none=>(ek s).bind λy=>some ((-1,y.1),y.2)
def gp(j:Nat):List UInt8:=if j=0 then[32,58,45,32] else[44,32]
def f7(ps:List Prd):Nat->Nat->List UInt8->Option (List Ltr×List UInt8)
 |0,_,s=>some ([],s)
 |n+1,j,s=>match bT (gp j) s with
  |none=>some ([],s)
  |some s1=>(eH ps ((bT [33] s1).getD s1)).bind λx=>(f7 ps n (j+1) x.2).bind λy=>some (⟨(bT [33] s1).isSome,x.1⟩::y.1,y.2)
def fu(ps:List Prd)(s:List UInt8):Option (Rul×List UInt8):=
 (eH ps s).bind λx=>(gu (bJ ps x.1.pred) x.2).bind λv=>(f7 ps v.2.length 0 v.2).bind λy=>(bT [46,10] y.2).bind λs=>some (⟨x.1,v.1.1,v.1.2,y.1⟩,s)
theorem fU{p s a}(b:bT p s=some a):s.length=p.length+a.length:=by rw[gi.1 b,length_append]
theorem uP(a):2<=(gp a).length:=by unfold gp;split<;>simp
theorem uW(s):((bT [33] s).getD s).length<=s.length:=by
 cases a:bT [33] s with
 |none=>simp
 |some b=>have:=fU a;simp at this⊢;omega
theorem sh{m s c d}(a:eH m s=some (d,c)):c.length<s.length:=by
 unfold eH at a;obtain⟨⟨u,v⟩,h,a⟩:=bind_eq_some_iff.1 a;obtain⟨q,p,a⟩:=bind_eq_some_iff.1 a;obtain⟨⟨w,n⟩,i,a⟩:=bind_eq_some_iff.1 a;obtain⟨o,b,a⟩:=bind_eq_some_iff.1 a;rw[injEq,Prod.mk.injEq] at a;obtain⟨rfl,rfl⟩:=a;obtain⟨f,l,_⟩:=iQ h;obtain⟨g,_⟩:=xV i;have r:=List.length_pos_iff.2 l
 have t:o.length<=n.length:=by
  simp only at b;unfold nG at b;split at b
  .rw[injEq] at b;rw[b];exact le_refl _
  have:=fU b;simp at this;omega
 have j:=congrArg List.length g;have k:=congrArg List.length f;simp only[length_append] at j k;omega
theorem abl(h:p:=by
 have:s=[]:=List.length_eq_zero_iff.1 Q0
 subst this
 rw[nil0,nil0]):p:=h
theorem MW(c):∀(n b a:Nat) (s:List UInt8),s.length<=n->s.length<=b->f7 c n a s=f7 c b a s:=by
 have nil0:∀(n a:Nat),f7 c n a []=some ([],[]):=by
  intro n a;cases n with
  |zero=>rfl
  |succ n=>
   rw[f7];have:bT (gp a) []=none:=by unfold gp;split<;>rfl
   rw[this]
 intro n;induction n with
 |zero=>
  intro b a s g h;exact abl
 |succ n ih=>
  intro b a s g h;cases b with
  |zero=>
   exact abl
  |succ b=>
   rw[f7,f7];cases f:bT (gp a) s with
   |none=>rfl
   |some d=>
    simp only;cases i:eH c ((bT [33] d).getD d) with
    |none=>rfl
    |some k=>
     obtain⟨l,j⟩:=k;have m:=fU f;have o:=uP a;have p:=uW d;have q:=sh i;simp only[Option.bind_some];rw[ih b (a+1) j Q0 Q0]
theorem ad6(h:p:=by simp only[append_assoc]):p:=h
theorem D8{i}:∀{n b:Nat} {s g:List UInt8} {d:List Ltr},s.length<=n->f7 i n b s=some (d,g)->s=cW i d b++g/\(∀l∈d,ao i l.atom)/\bT (gp (b+d.length)) g=none
 |0,b,s,g,d,t,a=>by
  have:s=[]:=List.length_eq_zero_iff.1 Q0
  subst this
  rw[f7,injEq,Prod.mk.injEq] at a
  obtain⟨rfl,rfl⟩:=a
  refine⟨rfl,(λl hl=>by cases hl),?_⟩
  unfold gp;split<;>rfl
 |n+1,b,s,g,d,t,a=>by
  rw[f7] at a
  cases f:bT (gp b) s with
  |none=>
   rw[f] at a
   simp only[injEq,Prod.mk.injEq] at a
   obtain⟨rfl,rfl⟩:=a
   exact⟨rfl,(λl hl=>by cases hl),f⟩
  |some c=>
   rw[f] at a
   simp only at a
   obtain⟨⟨w,C⟩,k,a⟩:=bind_eq_some_iff.1 a
   obtain⟨⟨m,D⟩,q,a⟩:=bind_eq_some_iff.1 a
   rw[injEq,Prod.mk.injEq] at a
   obtain⟨rfl,rfl⟩:=a
   have y:=fU f
   have z:=uP b
   have A:=uW c
   have B:=sh k
   obtain⟨o,u⟩:=sl k
   obtain⟨j,v,p⟩:=D8 (by simp only;omega) q
   refine⟨?_,?_,?_⟩
   .have h:c=(if(bT [33] c).isSome then[33] else[])++(bT [33] c).getD c:=by
     cases r:bT [33] c with
     |none=>rfl
     |some E=>exact gi.1 r
    simp only at j
    rw[o,j] at h
    generalize(bT [33] c).isSome=x at h⊢
    rw[gi.1 f,h,cW]
    unfold gp
    exact ad6
   .intro l hl
    rcases mem_cons.1 hl with rfl|hl
    .exact u
    exact v l hl
   rw[length_cons,show b+(m.length+1)=b+1+m.length by omega]
   exact p
theorem SQ(h:p:=by unfold ei;rw[hp,Int.toNat_natCast,getElem?_eq_getElem hk];rfl):p:=h
theorem DU{a}(k:ak a){b}(j:ao a b)(i):∃c g,c_ a b++i=c::g/\eP c=true:=by
 obtain⟨d,hk,hp⟩:=j.there;have l:ei a b.pred=a[d].name:=SQ;obtain⟨m,f⟩:=k.low a[d] (getElem_mem hk);unfold c_;rw[l];cases h:bG a[d].name with
 |nil=>exact absurd h m
 |cons c g=>
  rw[h] at f;simp only[all_cons,and_eq_true] at f;exact⟨c,g++dS b.args 0++(if b.args=[] then[] else[41])++i,Q1,f.1⟩
theorem yn{a b}(c:a≠b)(p d):bT (a::p) (b::d)=none:=by rw[bT,if_neg c]
theorem Mv(a b):bT (gp a) (46::b)=none:=by
 unfold gp;split<;>exact yn R8 _ _
theorem yy(f b d c):∃a g,cW f b d++46::c=a::g/\eP a=false/\ee a=false:=by
 cases b with
 |nil=>exact⟨46,c,rfl,R8,R8⟩
 |cons h b=>
  rw[cW];split
  .exact⟨32,_,rfl,R8,R8⟩
  exact⟨44,_,rfl,R8,R8⟩
theorem D7{a}(h:ak a)(d):∀(c:List Ltr) (n b:Nat),(∀l∈c,ao a l.atom)->c.length<=n->f7 a n b (cW a c b++46::d)=some (c,46::d)
 |[],0,b,_,_=>rfl
 |[],n+1,b,_,_=>by
  rw[f7]
  show(match bT (gp b) (46::d) with|none=>_|some x=>_)=_
  rw[Mv]
  rfl
 |l::c,0,b,_,i=>by simp at i
 |l::c,n+1,b,j,i=>by
  obtain⟨f,g⟩:=l
  have k:=j _ (mem_cons_self ..)
  obtain⟨v,y,m,s⟩:=yy a c (b+1) d
  have o:cW a (⟨f,g⟩::c) b++46::d=gp b++((if f then[33] else[])++(c_ a g++(cW a c (b+1)++46::d))):=by
   rw[cW]
   unfold gp
   exact ad6
  have p:bT [33] ((if f then[33] else[])++(c_ a g++(cW a c (b+1)++46::d)))=if f then some (c_ a g++(cW a c (b+1)++46::d)) else none:=by
   cases f with
   |true=>exact jU _ _
   |false=>
    obtain⟨w,z,e,t⟩:=DU h k (cW a c (b+1)++46::d)
    simp only[false_eq_true,if_false,nil_append]
    rw[e]
    exact yn (by rintro rfl;exact absurd t R8) _ _
  rw[f7,o,jU]
  simp only
  rw[p]
  have q:(Option.getD (if f=true then some (c_ a g++(cW a c (b+1)++46::d)) else none) ((if f then[33] else[])++(c_ a g++(cW a c (b+1)++46::d))))=c_ a g++(cW a c (b+1)++46::d):=by cases f<;>rfl
  have r:(if f=true then some (c_ a g++(cW a c (b+1)++46::d)) else none).isSome=f:=by cases f<;>rfl
  rw[q,r,xY h k (by rw[m];simpa using s.1),Option.bind_some]
  simp only
  rw[D7 h d c n (b+1) (λl u=>j l (mem_cons_of_mem _ u)) (by simpa using i)]
  rfl
theorem Qh{h r s i}(a:gu (bJ h r.head.pred) s=some ((r.src,r.n),i))(l:r.src<=99)(g:r.n<=99):s=eI h r++i:=by
 unfold gu at a;unfold eI;split at a
 .rename_i hk;rw[injEq,Prod.mk.injEq] at a;rw[if_pos hk,a.2];rfl
 rename_i hk;rw[if_neg hk];obtain⟨q,d,a⟩:=bind_eq_some_iff.1 a;split at a
 .rename_i s2 h2;obtain⟨⟨v,t⟩,k,a⟩:=bind_eq_some_iff.1 a;obtain⟨u,f,a⟩:=bind_eq_some_iff.1 a;obtain⟨⟨p,m⟩,c,a⟩:=bind_eq_some_iff.1 a;simp only[injEq,Prod.mk.injEq] at a;obtain⟨⟨rfl,rfl⟩,rfl⟩:=a;simp only at f;obtain⟨j,o,_⟩:=sG k l;obtain⟨b,_⟩:=sG c g;rw[if_pos o,gi.1 d,gi.1 h2,j,gi.1 f,b];simp
 obtain⟨⟨p,m⟩,c,a⟩:=bind_eq_some_iff.1 a;simp only[injEq,Prod.mk.injEq] at a;obtain⟨⟨e,rfl⟩,rfl⟩:=a;obtain⟨b,_⟩:=sG c g;rw[if_neg Q0,gi.1 d,b];simp
structure aV (ps:List Prd) (r:Rul):Prop where
 src: -1<=r.src/\r.src<=99
 n:0<=r.n/\r.n<=99
 plain:bJ ps r.head.pred=0->r.src= -1/\r.n=0
theorem Qg{f a}(b:aV f a){c}(h:(c.head?.map ee).getD false=false):gu (bJ f a.head.pred) (eI f a++c)=some ((a.src,a.n),c):=by
 unfold gu eI;by_cases d:bJ f a.head.pred=0
 .rw[if_pos d,if_pos d,(b.plain d).1,(b.plain d).2];rfl
 rw[if_neg d,if_neg d];by_cases g:0<=a.src
 .rw[if_pos g];have e:[32,61,32,35]++bG (b_ a.src)++[43]++bG (b_ a.n)++c=[32,61,32]++([35]++(bG (b_ a.src)++([43]++(bG (b_ a.n)++c)))):=Q1;rw[e,jU,Option.bind_some,jU];simp only;rw[qD g b.src.2 (vh _ R8),Option.bind_some];simp only;rw[jU,Option.bind_some,qD b.n.1 b.n.2 h];rfl
 rw[if_neg g];have e:[32,61,32]++bG (b_ a.n)++c=[32,61,32]++(bG (b_ a.n)++c):=Q1;obtain⟨m,o,i,l⟩:=Ef a.n b.n.1 b.n.2
 have j:bT [35] (bG (b_ a.n)++c)=none:=by
  rw[i];exact yn (by rintro rfl;exact absurd l R8) _ _
 rw[e,jU,Option.bind_some,j];simp only;rw[qD b.n.1 b.n.2 h];have k:a.src= -1:=by have:=b.src.1;omega
 rw[k];rfl
structure aL (ps:List Prd) (r:Rul):Prop where
 head:ao ps r.head
 val:aV ps r
 body:∀l∈r.body,ao ps l.atom
theorem aaG(h:p:=by
 obtain⟨r,h1,_⟩:=ms h
 rw[(iQ h1).1,length_append]
 omega):p:=h
theorem Qd{k s g}{m:Int×Int}(h:gu k s=some (m,g)):g.length<=s.length:=by
 have b:∀{s c:List UInt8} {f:Int},ek s=some (f,c)->c.length<=s.length:=by
  intro s c f h;exact aaG
 unfold gu at h;split at h
 .rw[injEq,Prod.mk.injEq] at h;rw[h.2];exact le_refl _
 obtain⟨u,h1,h⟩:=bind_eq_some_iff.1 h;have o:=fU h1;split at h
 .rename_i s2 h2;have p:=fU h2;obtain⟨⟨x,v⟩,i,h⟩:=bind_eq_some_iff.1 h;obtain⟨w,d,h⟩:=bind_eq_some_iff.1 h;obtain⟨⟨n,l⟩,a,h⟩:=bind_eq_some_iff.1 h;simp only[injEq,Prod.mk.injEq] at h;obtain⟨_,rfl⟩:=h;simp only at d;have q:=b i;have t:=fU d;have j:=b a;omega
 obtain⟨⟨n,l⟩,a,h⟩:=bind_eq_some_iff.1 h;simp only[injEq,Prod.mk.injEq] at h;obtain⟨_,rfl⟩:=h;have j:=b a;omega
theorem yK{j s u r}(a:fu j s=some (r,u)):u.length<s.length/\(r.src<=99->r.n<=99->s=eT j r++u):=by
 unfold fu at a;obtain⟨⟨k,z⟩,f,a⟩:=bind_eq_some_iff.1 a;obtain⟨⟨⟨t,v⟩,A⟩,b,a⟩:=bind_eq_some_iff.1 a;obtain⟨⟨q,B⟩,g,a⟩:=bind_eq_some_iff.1 a;obtain⟨C,c,a⟩:=bind_eq_some_iff.1 a;rw[injEq,Prod.mk.injEq] at a;obtain⟨rfl,rfl⟩:=a;simp only at b g c;obtain⟨l,_⟩:=sl f;obtain⟨d,_,_⟩:=D8 (le_refl _) g;have o:=gi.1 c;have w:=sh f;have x:=Qd b;have p:=congrArg List.length d;have y:=fU c;rw[length_append] at p;refine⟨Q0,λi h=>?_⟩;simp only at i h;have m:=Qh (r:=⟨k,t,v,q⟩) b i h;rw[l,m,d,o,eT];simp
theorem PK{a}(i:ak a){b}(g:aL a b)(c):fu a (eT a b++c)=some (b,c):=by
 have e:eT a b++c=c_ a b.head++(eI a b++(cW a b.body 0++46::(10::c))):=by simp[eT]
 obtain⟨m,o,h,j,k⟩:=yy a b.body 0 (10::c)
 have l:((eI a b++(cW a b.body 0++46::(10::c))).head?.map eP).getD false=false:=by
  rw[h];unfold eI;split
  .simpa using j
  split<;>exact(by decide:eP 32=false)
 unfold fu;rw[e,xY i g.head l,Option.bind_some];simp only;rw[Qg g.val (by rw[h];simpa using k),Option.bind_some];simp only;rw[D7 i (10::c) b.body _ 0 g.body ?_,Option.bind_some]
 .show(bT [46,10] ([46,10]++c)).bind _=_;rw[jU];rfl
 rw[length_append]
 have:∀(d:List Ltr) (f:Nat),d.length<=(cW a d f).length:=by
  intro d;induction d with
  |nil=>intro f;exact zero_le _
  |cons n d ih=>
   intro f;have:=ih (f+1);rw[cW];simp only[length_append,length_cons];split<;>simp<;>omega
 have:=this b.body 0;omega
theorem PN{d f}(a:cx d f=0):aL d f:=by
 have l:∀g:Atm,cf d g=0->ao d g:=by
  intro g b;obtain⟨c,h⟩:=gP b;refine⟨fd.1 c,?_,h⟩;unfold cf at b;rw[if_pos c] at b;split at b
  .rename_i e;omega
  cases b
 obtain⟨c,h,m,r,o,s,t⟩:=f_ a;refine⟨l _ c,⟨⟨m,Q0⟩,⟨o,Q0⟩,?_⟩,λq p=>l _ (h q p)⟩;intro k;rw[cx] at a;split at a
 .contradiction
 split at a
 .contradiction
 split at a
 .contradiction
 split at a
 .contradiction
 unfold gB at a;split at a
 .contradiction
 split at a
 .contradiction
 rename_i hv;by_cases i:f.src= -1
 .by_cases j:f.n=0
  .exact⟨i,j⟩
  exact absurd ⟨k,.inr j⟩ hv
 exact absurd ⟨k,.inl i⟩ hv
def fO:Nat->List UInt8->Option (List Prd×List UInt8)
 |0,s=>some ([],s)
 |n+1,s=>if jV s then(e8 s).bind λx=>(fO n x.2).bind λy=>some (x.1::y.1,y.2) else some ([],s)
def gV(ps:List Prd):Nat->List UInt8->Option (List Rul)
 |0,s=>if s=[] then some [] else none
 |n+1,s=>if s=[] then some [] else(fu ps s).bind λx=>(gV ps n x.2).bind λy=>some (x.1::y)
def jh(s:List UInt8):Option (List Prd×List Rul):=(fO s s).bind λx=>(gV x.1 x.2.length x.2).bind λy=>some (x.1,y)
theorem vp{s u q}(h:e8 s=some (q,u)):u.length<s.length:=by
 have g:∀{s a:List UInt8} {f:Int},ek s=some (f,a)->a.length<=s.length:=by
  intro s a f h;exact aaG
 unfold e8 at h;obtain⟨w,h1,h⟩:=bind_eq_some_iff.1 h;obtain⟨⟨r,x⟩,i,h⟩:=bind_eq_some_iff.1 h;obtain⟨y,b,h⟩:=bind_eq_some_iff.1 h;obtain⟨⟨D,z⟩,j,h⟩:=bind_eq_some_iff.1 h;obtain⟨A,c,h⟩:=bind_eq_some_iff.1 h;obtain⟨⟨E,B⟩,k,h⟩:=bind_eq_some_iff.1 h;obtain⟨C,d,h⟩:=bind_eq_some_iff.1 h;rw[injEq,Prod.mk.injEq] at h;obtain⟨rfl,rfl⟩:=h;simp only at b c d;have n:=fU h1;have l:=congrArg List.length (iQ i).1;have m:=fU b;have o:=g j;have p:=fU c;have t:=g k;have v:=fU d;rw[length_append] at l;simp only[length_cons,List.length_nil] at m;omega
theorem O0{s v d}(a:e8 s=some (d,v)):0<=d.arity/\d.arity<=999999/\0<=d.kind/\d.kind<=999999/\d.name.size<=s.length:=by
 have p:∀{s q:List UInt8} {g:Int},ek s=some (g,q)->0<=g/\g<=999999:=by
  intro s q g a;obtain⟨b,i,j,_,f⟩:=ms a;obtain⟨_,_,m,_⟩:=iQ i;refine⟨by rw[<-f];exact vx b 0 m (Int.le_refl _),?_⟩
  have t:∀(b:List UInt8) (c:Int),b.all ee=true->dV b c<=(c+1)*10^b.length-1:=by
   intro b;induction b with
   |nil=>intro c _;simp[dV]
   |cons h b ih=>
    intro c k;simp only[all_cons,and_eq_true] at k;have z:h.toNat<=57:=by have:=k.1;unfold ee at this;simp at this;exact this.2
    have a:=ih (10*c+((h.toNat:Int)-48)) k.2;rw[dV,length_cons];have r:(0:Int)<=10^b.length:=Int.le_of_lt (Int.pow_pos R8);have:(10*c+((h.toNat:Int)-48)+1)*10^b.length<=(c+1)*10*10^b.length:=Int.mul_le_mul_of_nonneg_right Q0 r;rw[Int.pow_succ,Int.mul_comm (10^b.length) 10,<-Int.mul_assoc];omega
  have:=t b 0 m;rw[f] at this
  have l:(10:Int)^b.length<=10^6:=by
   have:(10:Nat)^b.length<=10^6:=Nat.pow_le_pow_right R8 j;exact_mod_cast this
  omega
 unfold e8 at a;obtain⟨B,i,a⟩:=bind_eq_some_iff.1 a;obtain⟨⟨b,C⟩,j,a⟩:=bind_eq_some_iff.1 a;obtain⟨D,w,a⟩:=bind_eq_some_iff.1 a;obtain⟨⟨I,E⟩,f,a⟩:=bind_eq_some_iff.1 a;obtain⟨F,x,a⟩:=bind_eq_some_iff.1 a;obtain⟨⟨J,G⟩,l,a⟩:=bind_eq_some_iff.1 a;obtain⟨H,y,a⟩:=bind_eq_some_iff.1 a;rw[injEq,Prod.mk.injEq] at a;obtain⟨rfl,rfl⟩:=a;have n:=p f;have o:=p l;refine⟨n.1,n.2,o.1,o.2,?_⟩;have A:=fU i;have u:=congrArg List.length (iQ j).1;rw[length_append] at u;have:(⟨b.toArray⟩:ByteArray).size=b.length:=by rw[<-cD,x_]
 simp only[this];omega
theorem E3:∀{n:Nat} {s d:List UInt8} {b:List Prd},s.length<=n->fO n s=some (b,d)->(∀c∈b,c.arity<=99/\c.kind<=99)->s=b.flatMap fk++d
 |0,s,d,b,k,a,_=>by
  rw[fO,injEq,Prod.mk.injEq] at a
  obtain⟨rfl,rfl⟩:=a
  rfl
 |n+1,s,d,b,k,a,h=>by
  rw[fO] at a
  split at a
  .obtain⟨⟨c,q⟩,g,a⟩:=bind_eq_some_iff.1 a
   obtain⟨⟨p,r⟩,j,a⟩:=bind_eq_some_iff.1 a
   rw[injEq,Prod.mk.injEq] at a
   obtain⟨rfl,rfl⟩:=a
   have o:=vp g
   have i:=h c (mem_cons_self ..)
   have f:=E3 (by simp only;omega) j (λm l=>h m (mem_cons_of_mem _ l))
   simp only at f
   rw[O6 g i.1 i.2,f]
   simp
  rw[injEq,Prod.mk.injEq] at a
  obtain⟨rfl,rfl⟩:=a
  rfl
theorem Fb{f}:∀{n:Nat} {s:List UInt8} {b:List Rul},gV f n s=some b->(∀c∈b,c.src<=99/\c.n<=99)->s=b.flatMap (eT f)
 |0,s,b,a,_=>by
  rw[gV] at a
  split at a
  .rw[injEq] at a
   subst a
   assumption
  cases a
 |n+1,s,b,a,d=>by
  rw[gV] at a
  split at a
  .rw[injEq] at a
   subst a
   assumption
  obtain⟨⟨c,m⟩,h,a⟩:=bind_eq_some_iff.1 a
  obtain⟨l,i,a⟩:=bind_eq_some_iff.1 a
  rw[injEq] at a
  subst a
  have g:=d c (mem_cons_self ..)
  rw[(yK h).2 g.1 g.2]
  have:=Fb i (λk j=>d k (mem_cons_of_mem _ j))
  simp only at this
  rw[this]
  simp
structure bE (ps:List Prd) (rs:List Rul):Prop where
 names:ak ps
 preds:∀q∈ps,(0<=q.arity/\q.arity<=99)/\(0<=q.kind/\q.kind<=99)
 rules:∀r∈rs,aL ps r
theorem ON{b}(h:b.any (λa=> !fY a.name)=false)(i:iJ b=false):ak b:=by
 refine⟨λa k=>?_,λf l n d m j=>?_⟩
 .have:=List.any_eq_false.1 h a k;have this:fY a.name=true:=by cases e:fY a.name with|true=>rfl|false=>rw[e] at this;exact absurd rfl this
  rw[fY,and_eq_true] at this;obtain⟨c,g⟩:=this;refine⟨λe=>?_,?_⟩
  .have:a.name.size=0:=by rw[<-cD,e];rfl
   rw[this] at g;exact absurd g R8
  unfold jM at c;rw[List.all_map] at c;exact c
 have:=List.any_eq_false.1 i l (List.mem_range.2 d);apply this;refine any_eq_true.2 ⟨b[f],?_,?_⟩
 .rw[List.mem_take_iff_getElem];exact⟨f,Q0,rfl⟩
 rw[getElem?_eq_getElem d];simp only[map_some,Option.getD_some];rw[kj j];simp
theorem aaR(h:p:=by
 have:¬(!bQ q.arity 0 2)=true:=λe=>har (any_eq_true.2 ⟨q,hq,e⟩)
 simpa[bQ] using this):p:=h
theorem aaS(h:p:=by
 have:¬(!bQ q.kind 0 3)=true:=λe=>hki (any_eq_true.2 ⟨q,hq,e⟩)
 simpa[bQ] using this):p:=h
theorem qJ{b c}(d:bP b c=0):bE b c:=by
 have a:=(gO d).1;rw[ej] at a;split at a
 .contradiction
 split at a
 .contradiction
 rename_i hnm;split at a
 .contradiction
 rename_i htw;split at a
 .contradiction
 rename_i har;split at a
 .contradiction
 rename_i hki;refine⟨ON (by simpa using hnm) (by simpa using htw),λq hq=>?_,λg f=>PN (pV a g f)⟩
 have h:0<=q.arity/\q.arity<=2:=by
  exact aaR
 have i:0<=q.kind/\q.kind<=3:=by
  exact aaS
 omega
theorem Pd{s c d}(a:jh s=some (c,d))(b:bP c d=0):s=iw c d:=by
 unfold jh at a;obtain⟨⟨q,t⟩,m,a⟩:=bind_eq_some_iff.1 a;obtain⟨r,o,a⟩:=bind_eq_some_iff.1 a;rw[injEq,Prod.mk.injEq] at a;obtain⟨rfl,rfl⟩:=a;obtain⟨p,h,i⟩:=qJ b;have l:=E3 (le_refl _) m (λj g=>⟨(h j g).1.2,(h j g).2.2⟩);have f:=Fb o (λk b=>⟨(i k b).val.src.2,(i k b).val.n.2⟩);simp only at f;rw[l,f];rfl
theorem SR(h:p:=by simp only[cons_append,nil_append];rfl):p:=h
theorem PJ{a}(y:ak a){b}(x:aL a b)(k):jV (eT a b++k)=false:=by
 cases u:bT kS (eT a b++k) with
 |none=>simp[jV,u]
 |some p=>
  have e:=gi.1 u;obtain⟨m,s,B⟩:=x.head.there;have C:ei a b.head.pred=a[m].name:=by unfold ei;rw[B,Int.toNat_natCast,getElem?_eq_getElem s];rfl
  obtain⟨Q,F⟩:=y.low a[m] (getElem_mem s)
  have n:eT a b++k=bG a[m].name++(dS b.head.args 0++((if b.head.args=[] then[] else[41])++(eI a b++(cW a b.body 0++([46,10]++k))))):=by
   simp[eT,c_,C]
  obtain⟨K,S,L,N,_⟩:=yy a b.body 0 (10::k)
  have E:∃g:List UInt8,(dS b.head.args 0++((if b.head.args=[] then[] else[41])++(eI a b++(cW a b.body 0++([46,10]++k)))))=g/\((∃c,g=40::c)\/(∃c,g=32::61::c)\/(∃c,g=32::58::c)\/∃c,g=46::c):=by
   refine⟨_,rfl,?_⟩;cases M:b.head.args with
   |cons r T=>exact .inl ⟨_,by simp only[dS,if_true,cons_append];rfl⟩
   |nil=>
    simp only[dS,if_true,nil_append];unfold eI;split
    .cases O:b.body with
     |nil=>exact .inr (.inr (.inr ⟨_,rfl⟩))
     |cons P R=>exact .inr (.inr (.inl ⟨_,by simp only[cW,if_true,cons_append,nil_append];rfl⟩))
    split
    .exact .inr (.inl ⟨_,SR⟩)
    exact .inr (.inl ⟨_,SR⟩)
  obtain⟨g,w,v⟩:=E;rw[w] at n;rw[n] at e;have G:∀l:UInt8,eP l=true->l≠32:=by rintro l z rfl;exact absurd z R8
  have A:bG a[m].name=[112,114,101,100]/\∃c,g=32::c:=by
   generalize bG a[m].name=i at*
   have J:∀(i f:List UInt8),i.all eP=true->f.all eP=true->i++g=f++32::p->(∀c,g=40::c->eP 40=false)->i=f/\g=32::p:=by
    intro i;induction i with
    |nil=>
     intro f _ j d _;cases f with
     |nil=>exact⟨rfl,d⟩
     |cons l f=>
      simp only[all_cons,and_eq_true] at j;rcases v with⟨c,rfl⟩|⟨c,rfl⟩|⟨c,rfl⟩|⟨c,rfl⟩<;>(simp only[nil_append,cons_append,List.cons.injEq] at d;rw[<-d.1] at j;exact absurd j.1 R8)
    |cons r i ih=>
     intro f o j d h;simp only[all_cons,and_eq_true] at o;cases f with
     |nil=>
      simp only[nil_append,cons_append,List.cons.injEq] at d;exact absurd d.1 (G r o.1)
     |cons l f=>
      simp only[all_cons,and_eq_true] at j;simp only[cons_append,List.cons.injEq] at d;obtain⟨rfl,d⟩:=d;obtain⟨rfl,D⟩:=ih f o.2 j.2 d h;exact⟨rfl,D⟩
   obtain⟨H,I⟩:=J i [112,114,101,100] F R8 (by simpa[kS] using e) (λ_ _=>R8);exact⟨H,p,I⟩
  obtain⟨t,c,rfl⟩:=A;rcases v with⟨q,h⟩|⟨q,h⟩|⟨q,h⟩|⟨q,h⟩
  .cases h
  .cases h
   simp[jV,n,t,kS,bT]
  .cases h
   simp[jV,n,t,kS,bT]
  cases h
theorem EZ{c}(f:jV c=false):∀(a:List Prd) (n:Nat),(∀q∈a,(bG q.name≠[]/\(bG q.name).all eP=true)/\(0<=q.arity/\q.arity<=99)/\(0<=q.kind/\q.kind<=99))->a.length<=n->fO n (a.flatMap fk++c)=some (a,c)
 |[],0,_,_=>rfl
 |[],n+1,_,_=>by
  rw[fO]
  simp[f]
 |q::a,0,_,b=>by simp at b
 |q::a,n+1,d,b=>by
  obtain⟨g,i,j⟩:=d q (mem_cons_self ..)
  rw[fO,flatMap_cons,append_assoc,N_ g,if_pos rfl,O4 g i j,Option.bind_some]
  simp only
  rw[EZ f a n (λk h=>d k (mem_cons_of_mem _ h)) (by simpa using b)]
  rfl
theorem PL(a b c):eT a b++c≠[]:=by simp[eT]
theorem Fa{b}(f:ak b):∀(a:List Rul) (n:Nat),(∀r∈a,aL b r)->a.length<=n->gV b n (a.flatMap (eT b))=some a
 |[],0,_,_=>rfl
 |[],n+1,_,_=>rfl
 |r::a,0,_,c=>by simp at c
 |r::a,n+1,d,c=>by
  rw[gV,flatMap_cons,if_neg (PL _ _ _),PK f (d r (mem_cons_self ..)),Option.bind_some]
  simp only
  rw[Fa f a n (λh g=>d h (mem_cons_of_mem _ g)) (by simpa using c)]
  rfl
theorem sD{c:Type}(f:c->List UInt8)(b:∀a,1<=(f a).length):∀l:List c,l.length<=(l.flatMap f).length
 |[]=>zero_le _
 |a::l=>by
  have:=sD f b l
  have:=b a
  rw[flatMap_cons,length_append,length_cons]
  omega
theorem Pb{b a}(i:bP b a=0):jh (iw b a)=some (b,a):=by
 obtain⟨c,l,g⟩:=qJ i
 have j:jV (a.flatMap (eT b))=false:=by
  cases a with
  |nil=>rfl
  |cons h a=>
   rw[flatMap_cons];exact PJ c (g h (mem_cons_self ..)) _
 have m:=sD fk (λd=>by simp[fk]) b;have k:=sD (eT b) (λh=>by simp[eT];omega) a;unfold jh iw;rw[EZ j b _ (λd f=>⟨c.low d f,l d f⟩) (by rw[length_append];omega),Option.bind_some];simp only;rw[Fa c a _ g k];rfl
def bY(p:List UInt8):List UInt8->List UInt8×List UInt8×Bool
 |[]=>([],[],false)
 |b::s=>match bT p (b::s) with
  |some t=>([],t,true)
  |none=>if(bY p s).2.2 then(b::(bY p s).1,(bY p s).2.1,true) else(b::s,[],false)
theorem ad8(h:p:=by
 simp only
 rw[ih]
 simp):p:=h
theorem Ea{p}(f:p≠[]):∀{s:List UInt8} {i:Nat} {t:List UInt8},(∀a,a<i->bT p (s.drop a)=none)->bT p (s.drop i)=some t->bY p s=(s.take i,t,true)
 |[],i,t,_,h=>by
  rw[List.drop_nil] at h
  cases p with
  |nil=>exact absurd rfl f
  |cons g p=>cases h
 |b::s,0,t,_,h=>by
  rw[drop_zero] at h
  rw[bY,h]
  rfl
 |b::s,i+1,t,d,h=>by
  have c:=d 0 Q0
  rw[drop_zero] at c
  have ih:=Ea f (s:=s) (i:=i) (t:=t) (λa j=>by have:=d (a+1) Q0;simpa using this) Q2
  rw[bY,c]
  exact ad8
theorem Eb{p}:∀{s:List UInt8},(∀a,a<s.length->bT p (s.drop a)=none)->bY p s=(s,[],false)
 |[],_=>rfl
 |b::s,d=>by
  have c:=d 0 Q1
  rw[drop_zero] at c
  have ih:=Eb (s:=s) (λa f=>by have:=d (a+1) RD;simpa using this)
  rw[bY,c]
  exact ad8
theorem je{p}(a:p≠[]):∀s:List UInt8,(bY p s).1.length<=s.length/\(bY p s).2.1.length<=s.length/\((bY p s).2.2=true->(bY p s).1.length+(bY p s).2.1.length<s.length)
 |[]=>⟨le_refl _,le_refl _,λh=>Rm⟩
 |b::s=>by
  obtain⟨f,g,c⟩:=je a s
  rw[bY]
  cases h:bT p (b::s) with
  |some j=>
   have:=fU h
   have i:=List.length_pos_iff.2 a
   simp at this⊢
   omega
  |none=>
   simp only
   cases d:(bY p s).2.2 with
   |false=>simp
   |true=>
    have:=c d
    simp
    omega
theorem nH{c a b}(g:∀d∈a,d≠c):bY [c] (a++c::b)=(a,b,true):=by
 induction a with
 |nil=>simp[bY,bT]
 |cons f a ih=>
  have i:c≠f:=λe=>g f Q1 e.symm;rw[cons_append,bY];have h:bT [c] (f::(a++c::b))=none:=by simp[bT,i]
  rw[h];simp only;rw[ih λd hx=>g d Rl];simp
theorem uY{b a}(f:∀c∈a,c≠b):bY [b] a=(a,[],false):=by
 induction a with
 |nil=>rfl
 |cons d a ih=>
  have h:b≠d:=λe=>f d Q1 e.symm;rw[bY];have g:bT [b] (d::a)=none:=by simp[bT,h]
  rw[g];simp only;rw[ih λc hx=>f c Rl];simp
def oF(y:UInt8):List UInt8->Bool
 |[]=>false
 |z::_=>z != y
def ia(x y:UInt8):List UInt8->Bool
 |[]=>true
 |b::t=>(b != x||oF y t)&&ia x y t
theorem mW{g h}:∀{a d:List UInt8},ia g h a=true->ia g h d=true->ia g h (a++d)=true
 |[],d,_,b=>b
 |[c],d,b,f=>by
  simp only[ia,oF,Bool.or_false,Bool.and_true] at b
  rw[cons_append,nil_append,ia,b,f]
  rfl
 |c::i::a,d,b,f=>by
  rw[ia] at b
  simp only[and_eq_true] at b
  have ih:=mW (a:=i::a) b.2 f
  rw[cons_append,ia]
  simp only[and_eq_true]
  exact⟨b.1,ih⟩
theorem nK{f g}:∀{a:List UInt8},(∀b∈a,b≠f)->ia f g a=true
 |[],_=>rfl
 |c::a,d=>by
  rw[ia,nK λb hz=>d b Sz]
  have:=d c Q1
  simp[this]
theorem sr{f a p b}:∀{d:List UInt8},ia f a d=true->bY (f::a::p) (d++(f::a::p)++b)=(d,b,true)
 |[],_=>by
  rw[nil_append]
  have e:bT (f::a::p) ((f::a::p)++b)=some b:=jU _ _
  rw[cons_append] at e⊢
  rw[bY,e]
 |c::d,g=>by
  rw[ia] at g
  simp only[and_eq_true] at g
  have ih:=sr (p:=p) (b:=b) g.2
  rw[cons_append,cons_append,bY]
  have h:bT (f::a::p) (c::(d++(f::a::p)++b))=none:=by
   rw[bT]
   split
   .rename_i hc
    subst hc
    cases d with
    |nil=>simp[oF] at g
    |cons j d=>
     have i:a≠j:=by rintro rfl;simp[oF] at g
     rw[cons_append,cons_append,bT,if_neg i]
   rfl
  rw[h]
  exact ad8
theorem uZ{f d p}:∀{a:List UInt8},ia f d a=true->bY (f::d::p) a=(a,[],false)
 |[],_=>rfl
 |c::a,b=>by
  rw[ia] at b
  simp only[and_eq_true] at b
  have ih:=uZ (p:=p) b.2
  rw[bY]
  have g:bT (f::d::p) (c::a)=none:=by
   rw[bT]
   split
   .rename_i hc
    subst hc
    cases a with
    |nil=>simp[oF] at b
    |cons i a=>
     have h:d≠i:=by rintro rfl;simp[oF] at b
     rw[bT,if_neg h]
   rfl
  rw[g]
  exact ad8
def dE(s:List UInt8):Int:=if 1<=s.length/\s.length<=6 then dV s 0 else 0
def cJ(s:List UInt8):Tm:=if s.length=1/\65<=(s.headD 0).toNat then⟨true,((s.headD 0).toNat:Int)-65⟩ else⟨false,dE s⟩
def jS:Nat->List UInt8->List Tm
 |0,_=>[]
 |n+1,s=>if(bY [44] s).2.2 then cJ (bY [44] s).1::jS n (bY [44] s).2.1 else[cJ (bY [44] s).1.dropLast]
def km(ps:List Prd)(r:List UInt8):Nat->Int
 |0=> -1
 |k+1=>if(ps[k]?.map λq=>decide (bG q.name=r))=some true then(k:Int) else km ps r k
def fi(ps:List Prd)(s:List UInt8):Atm:=⟨km ps (bY [40] s).1 ps,if(bY [40] s).2.2 then jS ((bY [40] s).2.1.length+1) (bY [40] s).2.1 else[]⟩
def jW(ps:List Prd)(t:List UInt8):Ltr:=if t.head?=some 33 then⟨true,fi ps t.tail⟩ else⟨false,fi ps t⟩
def jD(ps:List Prd):Nat->List UInt8->List Ltr
 |0,_=>[]
 |n+1,s=>jW ps (bY [44,32] s).1::if(bY [44,32] s).2.2 then jD ps n (bY [44,32] s).2.1 else[]
def nN(val:List UInt8):Int×Int:=
 if(bY [43] val).2.2=true/\(bY [43] val).1≠[] then(dE (bY [43] val).1.tail,dE (bY [43] val).2.1) else(-1,dE val)
def lR(ps:List Prd)(h:List UInt8):Atm×Int×Int:=
 if(bY [32,61,32] h).2.2 then(fi ps (bY [32,61,32] h).1,nN (bY [32,61,32] h).2.1) else(fi ps h,-1,0)
def nL(ps:List Prd)(s:List UInt8):Rul:=
 ⟨(lR ps (bY [32,58,45,32] s).1).1,(lR ps (bY [32,58,45,32] s).1).2.1,(lR ps (bY [32,58,45,32] s).1).2.2,if(bY [32,58,45,32] s).2.2 then jD ps ((bY [32,58,45,32] s).2.1.length+1) (bY [32,58,45,32] s).2.1 else[]⟩
def jB(line:List UInt8):Bool:=(bY [32] line).2.2&&decide ((bY [32] line).1=[112,114,101,100])&&decide ((bY [32] line).2.1≠[])&&decide ((bY [32] line).2.1.head?≠some 58)&&decide ((bY [32] line).2.1.head?≠some 61)
def sL(more:List UInt8):Prd:=⟨⟨(bY [32] more).1.toArray⟩,dE (bY [32] (bY [32] more).2.1).1,dE (bY [32] (bY [32] more).2.1).2.1⟩
def oz(x:List Prd×List Rul)(line:List UInt8):List Prd×List Rul:=if jB line then(x.1++[sL (bY [32] line).2.1],x.2) else(x.1,x.2++[nL x.1 line.dropLast])
def jC:Nat->List Prd×List Rul->List UInt8->List Prd×List Rul
 |0,x,_=>x
 |n+1,x,s=>if s=[] then x else jC n (oz x (bY [10] s).1) (bY [10] s).2.1
def mt(s:List UInt8):List Prd×List Rul:=jC s ([],[]) s
def nI(s:List UInt8):Option (List Prd×List Rul):=(jh s).bind λx=>if bP x.1 x.2=0 then some x else none
theorem Ee{s c d}:nI s=some (c,d)↔bP c d=0/\iw c d=s:=by
 unfold nI;constructor
 .intro a;obtain⟨⟨g,h⟩,f,b⟩:=bind_eq_some_iff.1 a;split at b
  .rename_i hc;rw[injEq,Prod.mk.injEq] at b;obtain⟨rfl,rfl⟩:=b;exact⟨hc,(Pd f hc).symm⟩
  cases b
 rintro⟨a,rfl⟩;rw[Pb a,Option.bind_some,if_pos a]
theorem fA{a:UInt8->Bool}{d b}(f:a d=true)(c:a b=false):d≠b:=by
 rintro rfl;rw[f] at c;cases c
def uQ(b:UInt8):Bool:=(decide (65<=b.toNat)&&decide (b.toNat<=67))||(decide (48<=b.toNat)&&decide (b.toNat<=52))
def uS(b:UInt8):Bool:=eP b||uQ b||b==40||b==41||b==44
theorem uR{c}(f:db c=true):∃d,bG (dO c)=[d]/\uQ d=true/\cJ [d]=c:=by
 obtain⟨j,g⟩:=c;simp only[db,bQ,and_eq_true,decide_eq_true_eq] at f;obtain⟨a,rfl⟩:∃a:Nat,g=(a:Int):=⟨g.toNat,Q0⟩;cases j with
 |true=>
  simp only[if_true] at f;have e:=yV ⟨a,Q0⟩;simp only at e;have b:(UInt8.ofNat (65+a)).toNat=65+a:=by rw[UInt8.toNat_ofNat'];omega
  refine⟨_,e,?_,?_⟩
  .unfold uQ;rw[b];simp;omega
  have h:([UInt8.ofNat (65+a)]:List UInt8).length=1/\65<=(([UInt8.ofNat (65+a)]:List UInt8).headD 0).toNat:=⟨rfl,by show 65<=(UInt8.ofNat (65+a)).toNat;omega⟩;have i:((([UInt8.ofNat (65+a)]:List UInt8).headD 0).toNat:Int)-65=(a:Int):=by show(((UInt8.ofNat (65+a)).toNat:Nat):Int)-65=_;omega
  rw[cJ,if_pos h,i]
 |false=>
  simp only[false_eq_true,if_false] at f;have e:=yj ⟨a,Q0⟩;simp only at e;have b:(UInt8.ofNat (48+a)).toNat=48+a:=by rw[UInt8.toNat_ofNat'];omega
  refine⟨_,e,?_,?_⟩
  .unfold uQ;rw[b];simp;omega
  simp only[cJ,List.length_singleton,List.headD_cons,b];rw[if_neg Q0];simp only[dE,List.length_singleton,dV,b];rw[if_pos ⟨Q0,Q0⟩];congr 1;omega
theorem DN:∀(a:List Tm) (k:Nat),a.all db=true->∀b∈dS a k,uS b=true
 |[],k,_,b,hz=>by cases hz
 |t::a,k,c,b,hz=>by
  simp only[all_cons,and_eq_true] at c
  obtain⟨f,e,d,_⟩:=uR c.1
  rw[dS,e] at hz
  simp only[mem_cons,cons_append,nil_append] at hz
  rcases hz with rfl|rfl|hz
  .split<;>rfl
  .simp[uS,d]
  exact DN a (k+1) c.2 b hz
theorem DP:∀(a:List Tm) (k:Nat),a.all db=true->ia 44 32 (dS a k)=true
 |[],k,_=>rfl
 |t::a,k,c=>by
  simp only[all_cons,and_eq_true] at c
  obtain⟨b,e,d,_⟩:=uR c.1
  have g:b≠32:=fA d R8
  have h:b≠44:=fA d R8
  have ih:=DP a (k+1) c.2
  have f:dS (t::a) k=[if k=0 then 40 else 44,b]++dS a (k+1):=by rw[dS,e];rfl
  rw[f]
  refine mW ?_ ih
  simp[ia,oF,g,h]
theorem DO:∀(a:List Tm) (k:Nat),a.length<=(dS a k).length
 |[],k=>le_refl _
 |t::a,k=>by
  have:=DO a (k+1)
  simp[dS]
  omega
theorem DL:∀(a:List Tm) (c:Tm) (n k:Nat),db c=true->a.all db=true->a.length<n->jS n (bG (dO c)++dS a (k+1)++[41])=c::a
 |[],c,n,k,g,_,l=>by
  obtain⟨b,e,i,o⟩:=uR g
  obtain⟨n,rfl⟩:∃p,n=p+1:=⟨n-1,by simp at l;omega⟩
  have h:b≠44:=fA i R8
  have j:bY [44] [b,41]=([b,41],[],false):=uY (by
   intro q d
   simp only[mem_cons,List.not_mem_nil,or_false] at d
   rcases d with rfl|rfl
   .exact h
   decide)
  have f:bG (dO c)++dS [] (k+1)++[41]=[b,41]:=by rw[e];rfl
  rw[f,jS,j]
  simp[o]
 |t'::a,c,n,k,g,m,l=>by
  obtain⟨b,e,i,o⟩:=uR g
  simp only[all_cons,and_eq_true] at m
  simp only[length_cons] at l
  obtain⟨n,rfl⟩:∃p,n=p+1:=⟨n-1,Q0⟩
  have ih:=DL a t' n (k+1) m.1 m.2 Q0
  have h:b≠44:=fA i R8
  have f:bG (dO c)++dS (t'::a) (k+1)++[41]=[b]++44::(bG (dO t')++dS a (k+1+1)++[41]):=by
   rw[e,dS]
   simp
  have j:bY [44] ([b]++44::(bG (dO t')++dS a (k+1+1)++[41]))=([b],bG (dO t')++dS a (k+1+1)++[41],true):=nH (by
   intro q d
   simp only[mem_singleton] at d
   rw[d]
   exact h)
  rw[f,jS,j]
  simp only[if_true]
  rw[ih,o]
theorem Em{a}(b:ak a){k}(hk:k<a.length):∀m,m<=a.length->km a (bG (ei a (k:Int))) m=if k<m then(k:Int) else-1
 |0,_=>rfl
 |m+1,g=>by
  have ih:=Em b hk m Q0
  have e:ei a (k:Int)=a[k].name:=Sa
  have c:m<a.length:=Q0
  rw[km,ih,getElem?_eq_getElem c,e]
  simp only[map_some,injEq,decide_eq_true_eq]
  by_cases d:m=k
  .subst d
   rw[if_pos rfl,if_pos Q0]
  have:¬bG a[m].name=bG a[k].name:=by
   intro f
   rcases Nat.lt_or_gt_of_ne d with h2|h2
   .exact b.one m k h2 hk c f
   exact b.one k m h2 c hk f.symm
  rw[if_neg this]
  by_cases h2:k<m
  .rw[if_pos h2,if_pos Q0]
  rw[if_neg h2,if_neg Q0]
theorem yC{a}(f:ak a){b}(d:ao a b):(bG (ei a b.pred)).all eP=true:=by
 obtain⟨c,hk,hp⟩:=d.there;have g:ei a b.pred=a[c].name:=SQ;rw[g];exact(f.low a[c] (getElem_mem hk)).2
theorem qw{b}(f:ak b){c}(d:ao b c):∀a∈c_ b c,uS a=true:=by
 intro a hz;unfold c_ at hz;simp only[mem_append] at hz;rcases hz with(hz|hz)|hz
 .have:=all_eq_true.1 (yC f d) a hz;simp[uS,this]
 .exact DN _ _ d.terms a hz
 split at hz
 .cases hz
 simp only[mem_singleton] at hz;subst hz;rfl
theorem MK{a}(d:ak a){b}(c:ao a b):ia 44 32 (c_ a b)=true:=by
 unfold c_;refine mW (mW (nK λg f=>fA (all_eq_true.1 (yC d c) g f) R8) (DP _ _ c.terms)) ?_;split<;>decide
theorem uT{a}(l:ak a){d}(k:ao a d):fi a (c_ a d)=d:=by
 have n:=yC l k;obtain⟨q,b⟩:=d;obtain⟨⟨c,m,o⟩,p,f⟩:=k;simp only at o p f n;subst o;have g:∀j∈bG (ei a (c:Int)),j≠40:=λj g=>fA (all_eq_true.1 n j g) R8;have h:=Em l m a (le_refl _);rw[if_pos m] at h;cases b with
 |nil=>
  have e:c_ a ⟨(c:Int),[]⟩=bG (ei a (c:Int)):=by simp[c_,dS]
  rw[e,fi,uY g,h];rfl
 |cons i b=>
  simp only[all_cons,and_eq_true] at f;have e:c_ a ⟨(c:Int),i::b⟩=bG (ei a (c:Int))++40::(bG (dO i)++dS b (0+1)++[41]):=by simp[c_,dS]
  rw[e,fi,nH g,h];simp only[if_true];rw[DL b i _ 0 f.1 f.2 (by have:=DO b (0+1);simp only[length_append];omega)]
def jX(ps:List Prd)(l:Ltr):List UInt8:=(if l.neg then[33] else[])++c_ ps l.atom
theorem SS(h:p:=by rfl):p:=h
theorem ED{a}(d:ak a){l}(c:ao a l.atom):jW a (jX a l)=l:=by
 obtain⟨h,b⟩:=l;simp only at c;cases h with
 |true=>
  have e:jX a ⟨true,b⟩=33::c_ a b:=rfl;rw[e,jW,if_pos SS,List.tail_cons,uT d c]
 |false=>
  have e:jX a ⟨false,b⟩=c_ a b:=rfl;obtain⟨i,j,f,g⟩:=DU d c [];rw[append_nil] at f;rw[e,jW,if_neg,uT d c];rw[f,List.head?_cons,injEq];exact fA g R8
theorem EE{a}(c:ak a){l}(b:ao a l.atom):ia 44 32 (jX a l)=true:=by
 unfold jX;refine mW ?_ (MK c b);split<;>decide
theorem EH(c):∀(b:List Ltr) (a:Nat),b.length<=(cW c b a).length
 |[],a=>le_refl _
 |l::b,a=>by
  have:=EH c b (a+1)
  simp only[cW,length_append,length_cons]
  have:1<=(if a=0 then([32,58,45,32]:List UInt8) else[44,32]).length:=by split<;>simp
  omega
theorem EG{a}(f:ak a):∀(b:List Ltr) (l:Ltr) (n c:Nat),ao a l.atom->(∀i∈b,ao a i.atom)->b.length<n->jD a n (jX a l++cW a b (c+1))=l::b
 |[],l,n,c,d,_,g=>by
  obtain⟨n,rfl⟩:∃h,n=h+1:=⟨n-1,by simp at g;omega⟩
  have e:jX a l++cW a [] (c+1)=jX a l:=by simp[cW]
  rw[e,jD,uZ (EE f d)]
  simp[ED f d]
 |l'::b,l,n,c,d,j,g=>by
  simp only[length_cons] at g
  obtain⟨n,rfl⟩:∃h,n=h+1:=⟨n-1,Q0⟩
  have ih:=EG f b l' n (c+1) (j l' Q1) (λi hx=>j i Rl) Q0
  have e:jX a l++cW a (l'::b) (c+1)=jX a l++[44,32]++(jX a l'++cW a b (c+1+1)):=by simp[cW,jX]
  rw[e,jD,sr (EE f d)]
  simp only[if_true]
  rw[ih,ED f d]
theorem PR:∀k:Fin 100,dE (bG (b_ (k.val:Int)))=(k.val:Int):=R8
theorem sT{n}(b:0<=n)(c:n<=99):dE (bG (b_ n))=n:=by
 obtain⟨a,rfl⟩:∃a:Nat,n=(a:Int):=⟨n.toNat,Q0⟩;exact PR ⟨a,Q0⟩
theorem Ns:∀k:Fin 100,(bG (b_ (k.val:Int))).all ee=true:=R8
theorem mp{n}(c:0<=n)(d:n<=99):∀b∈bG (b_ n),ee b=true:=by
 obtain⟨a,rfl⟩:∃a:Nat,n=(a:Int):=⟨n.toNat,Q0⟩;exact all_eq_true.1 (Ns ⟨a,Q0⟩)
theorem Qf{h d}(a:aV h d):ia 32 58 (eI h d)=true:=by
 unfold eI;split
 .rfl
 split
 .rename_i h0;refine mW (mW (mW R8 (nK λb c=>fA (mp h0 a.src.2 b c) R8)) R8) (nK λb c=>fA (mp a.n.1 a.n.2 b c) R8)
 obtain⟨f,i,e,g⟩:=Ef d.n a.n.1 a.n.2;have m:∀b∈i,b≠32:=λb c=>fA (mp a.n.1 a.n.2 b (by rw[e];simp[c])) R8;have j:[32,61,32]++bG (b_ d.n)=[32,61,32,f]++i:=by rw[e];rfl
 have k:f≠58:=fA g R8;have l:f≠32:=fA g R8;rw[j];refine mW ?_ (nK m);simp[ia,oF,k,l]
theorem N2{b}(j:ak b){a}(k:ao b a.head)(c:aV b a):lR b (c_ b a.head++eI b a)=(a.head,a.src,a.n):=by
 have g:∀i∈c_ b a.head,i≠32:=λi p=>fA (qw j k i p) R8;have d:=uT j k;unfold eI;split
 .rename_i hk;obtain⟨l,m⟩:=c.plain hk;rw[append_nil,lR,uZ (nK g),d,l,m];rfl
 split
 .rename_i h0;have e:c_ b a.head++([32,61,32,35]++bG (b_ a.src)++[43]++bG (b_ a.n))=c_ b a.head++[32,61,32]++((35::bG (b_ a.src))++43::bG (b_ a.n)):=Q1
  have f:bY [43] ((35::bG (b_ a.src))++43::bG (b_ a.n))=(35::bG (b_ a.src),bG (b_ a.n),true):=nH (by
   intro h hx;rcases mem_cons.1 hx with rfl|hx
   .decide
   exact fA (mp h0 c.src.2 h hx) R8)
  rw[e,lR,sr (nK g),d];simp only[if_true];rw[nN,f,if_pos ⟨rfl,Q1⟩];simp only[List.tail_cons];rw[sT h0 c.src.2,sT c.n.1 c.n.2]
 rename_i h0;have o:a.src= -1:=by have:=c.src.1;omega
 have e:c_ b a.head++([32,61,32]++bG (b_ a.n))=c_ b a.head++[32,61,32]++bG (b_ a.n):=Q1;have f:bY [43] (bG (b_ a.n))=(bG (b_ a.n),[],false):=uY (λh hx=>fA (mp c.n.1 c.n.2 h hx) R8);rw[e,lR,sr (nK g),d];simp only[if_true];rw[nN,f,if_neg Q1,sT c.n.1 c.n.2,o]
theorem PF{a}(g:ak a){b}(c:aL a b):nL a (c_ a b.head++eI a b++cW a b.body 0)=b:=by
 have j:=N2 g c.head c.val;have k:=mW (nK λn l=>fA (qw g c.head n l) R8) (Qf c.val);have h:=c.body;cases i:b.body with
 |nil=>
  have e:c_ a b.head++eI a b++cW a [] 0=c_ a b.head++eI a b:=by simp[cW]
  rw[e,nL,uZ k,j];simp only[false_eq_true,if_false];rw[<-i]
 |cons d f=>
  rw[i] at h;have e:c_ a b.head++eI a b++cW a (d::f) 0=c_ a b.head++eI a b++[32,58,45,32]++(jX a d++cW a f (0+1)):=by simp[cW,jX]
  rw[e,nL,sr k,j];simp only[if_true];rw[EG g f d _ 0 (h d Q1) (λm hx=>h m Rl) (by have:=EH a f (0+1);simp only[length_append];omega),<-i]
theorem EK{b:Prd}(j:(bG b.name).all eP=true)(g:0<=b.arity/\b.arity<=99)(h:0<=b.kind/\b.kind<=99)(c:UInt8)(i:eP c=false)(f:ee c=false):(∀a∈bG b.name,a≠c)/\(∀a∈bG (b_ b.arity),a≠c)/\∀a∈bG (b_ b.kind),a≠c:=
 ⟨λa d=>fA (all_eq_true.1 j a d) i,λa d=>fA (mp g.1 g.2 a d) f,λa d=>fA (mp h.1 h.2 a d) f⟩
def pp(q:Prd):List UInt8:=[112,114,101,100]++32::(bG q.name++32::(bG (b_ q.arity)++32::bG (b_ q.kind)))
theorem OZ(a b):fk a++b=pp a++10::b:=by simp[fk,pp]
theorem OB{a}(g:bG a.name≠[]/\(bG a.name).all eP=true)(d:0<=a.arity/\a.arity<=99)(f:0<=a.kind/\a.kind<=99)(h:List Prd×List Rul):oz h (pp a)=(h.1++[a],h.2):=by
 obtain⟨s,t,u⟩:=EK g.2 d f 32 R8 R8;have i:bY [32] (pp a)=([112,114,101,100],bG a.name++32::(bG (b_ a.arity)++32::bG (b_ a.kind)),true):=nH R8;have l:bY [32] (bG a.name++32::(bG (b_ a.arity)++32::bG (b_ a.kind)))=(bG a.name,bG (b_ a.arity)++32::bG (b_ a.kind),true):=nH s;have m:bY [32] (bG (b_ a.arity)++32::bG (b_ a.kind))=(bG (b_ a.arity),bG (b_ a.kind),true):=nH t
 have q:jB (pp a)=true:=by
  unfold jB;rw[i]
  obtain⟨b,c,j⟩:∃b c,bG a.name=b::c:=by
   cases r:bG a.name with
   |nil=>exact absurd r g.1
   |cons b c=>exact⟨b,c,rfl⟩
  have k:=all_eq_true.1 g.2 b (by rw[j];simp);have n:b≠58:=fA k R8;have o:b≠61:=fA k R8;simp[j,n,o]
 have p:sL (bG a.name++32::(bG (b_ a.arity)++32::bG (b_ a.kind)))=a:=by
  unfold sL;rw[l];simp only;rw[m];simp only;rw[sT d.1 d.2,sT f.1 f.2,ER]
 unfold oz;rw[if_pos q,i];simp only;rw[p]
def mw(ps:List Prd)(r:Rul):List UInt8:=c_ ps r.head++eI ps r++cW ps r.body 0++[46]
theorem PG(a b c):eT a b++c=mw a b++10::c:=by simp[eT,mw]
theorem PI{a}(m:ak a){b}(l:aL a b):jB (mw a b)=false:=by
 have h:∀g∈c_ a b.head,g≠32:=λg p=>fA (qw m l.head g p) R8
 have i:∀(d:UInt8) (c:List UInt8),d=58\/d=61->jB (c_ a b.head++32::d::c)=false:=by
  intro d c n;unfold jB;rw[nH h];rcases n with rfl|rfl<;>simp
 by_cases f:eI a b=[]
 .unfold mw;rw[f,append_nil];cases r:b.body with
  |nil=>
   have e:c_ a b.head++cW a [] 0++[46]=c_ a b.head++[46]:=by simp[cW]
   rw[e];unfold jB;rw[uY]
   .rfl
   intro q hx;rcases mem_append.1 hx with hx|hx
   .exact h q hx
   simp only[mem_singleton] at hx;subst hx;decide
  |cons j k=>
   have e:c_ a b.head++cW a (j::k) 0++[46]=c_ a b.head++32::58::([45,32]++(jX a j++cW a k (0+1))++[46]):=by simp[cW,jX]
   rw[e];exact i _ _ (.inl rfl)
 obtain⟨c,o⟩:∃c,eI a b=32::61::c:=by
  unfold eI at f⊢;split
  .rename_i hk;rw[if_pos hk] at f;exact absurd rfl f
  split
  .exact⟨_,rfl⟩
  exact⟨_,rfl⟩
 have e:mw a b=c_ a b.head++32::61::(c++cW a b.body 0++[46]):=by
  unfold mw;rw[o];simp
 rw[e];exact i _ _ (.inr rfl)
theorem OC{a}(d:ak a){b}(c:aL a b)(f):oz (a,f) (mw a b)=(a,f++[b]):=by
 unfold oz;rw[PI d c];simp only[false_eq_true,if_false];have e:(mw a b).dropLast=c_ a b.head++eI a b++cW a b.body 0:=by unfold mw;rw[List.dropLast_concat]
 rw[e,PF d c]
theorem O3{a}(f:bG a.name≠[]/\(bG a.name).all eP=true)(c:0<=a.arity/\a.arity<=99)(d:0<=a.kind/\a.kind<=99):∀b∈pp a,b≠10:=by
 obtain⟨g,h,i⟩:=EK f.2 c d 10 R8 R8;intro b hz;unfold pp at hz;simp only[mem_append,mem_cons,List.not_mem_nil,or_false] at hz;rcases hz with(rfl|rfl|rfl|rfl)|rfl|hz|rfl|hz|rfl|hz
 .decide
 .decide
 .decide
 .decide
 .decide
 .exact g b hz
 .decide
 .exact h b hz
 .decide
 exact i b hz
theorem EJ{d}(g:ak d):∀(c:List Ltr) (b:Nat),(∀l∈c,ao d l.atom)->∀a∈cW d c b,a≠10
 |[],b,_,a,hz=>by cases hz
 |l::c,b,f,a,hz=>by
  rw[cW] at hz
  simp only[mem_append] at hz
  rcases hz with((hz|hz)|hz)|hz
  .split at hz
   .revert a;decide
   revert a;decide
  .split at hz
   .simp only[mem_singleton] at hz
    subst hz
    decide
   cases hz
  .exact fA (qw g (f l Q1) a hz) R8
  exact EJ g c (b+1) (λh hx=>f h Rl) a hz
theorem Qe{c d}(b:aV c d):∀a∈eI c d,a≠10:=by
 intro a hz;unfold eI at hz;split at hz
 .cases hz
 split at hz
 .rename_i h0;simp only[mem_append] at hz;rcases hz with((hz|hz)|hz)|hz
  .revert a;decide
  .exact fA (mp h0 b.src.2 a hz) R8
  .revert a;decide
  exact fA (mp b.n.1 b.n.2 a hz) R8
 simp only[mem_append] at hz;rcases hz with hz|hz
 .revert a;decide
 exact fA (mp b.n.1 b.n.2 a hz) R8
theorem PH{c}(d:ak c){f}(b:aL c f):∀a∈mw c f,a≠10:=by
 intro a hz;unfold mw at hz;simp only[mem_append] at hz;rcases hz with((hz|hz)|hz)|hz
 .exact fA (qw d b.head a hz) R8
 .exact Qe b.val a hz
 .exact EJ d _ _ b.body a hz
 revert a;decide
theorem EA{n}{b:List Prd×List Rul}{l a}(c:∀d∈l,d≠10):jC (n+1) b (l++10::a)=jC n (oz b l) a:=by
 rw[jC,if_neg Q1,nH c]
theorem Ey(c):∀(a:List Prd) (n:Nat) (b:List Prd),(∀q∈a,(bG q.name≠[]/\(bG q.name).all eP=true)/\(0<=q.arity/\q.arity<=99)/\(0<=q.kind/\q.kind<=99))->jC (n+a.length) (b,[]) (a.flatMap fk++c)=jC n (b++a,[]) c
 |[],n,b,_=>Q1
 |q::a,n,b,d=>by
  obtain⟨f,g,h⟩:=d q Q1
  have ih:=Ey c a n (b++[q]) (λi hx=>d i Rl)
  rw[flatMap_cons,append_assoc,OZ,length_cons,<-Nat.add_assoc,EA (O3 f g h),OB f g h]
  exact ad8
theorem Ez{c}(f:ak c):∀(a:List Rul) (n:Nat) (b:List Rul),(∀r∈a,aL c r)->a.length<=n->jC n (c,b) (a.flatMap (eT c))=(c,b++a)
 |[],n,b,_,_=>by
  cases n<;>simp[jC]
 |r::a,n,b,d,g=>by
  simp only[length_cons] at g
  obtain⟨n,rfl⟩:∃h,n=h+1:=⟨n-1,Q0⟩
  have ih:=Ez f a n (b++[r]) (λi hx=>d i Rl) Q0
  rw[flatMap_cons,PG,EA (PH f (d r Q1)),OC f (d r Q1),ih]
  simp
theorem NX{a b}(h:bP a b=0):mt (iw a b)=(a,b):=by
 have c:=qJ h;unfold mt;have k:a.length<=(a.flatMap fk).length:=sD _ (λd=>by simp[fk]) a;have l:b.length<=(b.flatMap (eT a)).length:=sD _ (λd=>by simp[eT];omega) b;have j:(iw a b).length=(iw a b).length-a.length+a.length:=by unfold iw;rw[length_append];omega
 rw[j];have e:iw a b=a.flatMap fk++b.flatMap (eT a):=rfl;generalize i:(iw a b).length-a.length=g;rw[e,Ey _ a g [] (λd f=>⟨c.names.low d f,(c.preds d f).1,(c.preds d f).2⟩),nil_append,Ez c.names b g [] c.rules,nil_append];rw[<-i,e,length_append];omega
def fB(s:List UInt8):Option (List Prd×List Rul):=if bP (mt s).1 (mt s).2=0/\iw (mt s).1 (mt s).2=s then some (mt s) else none
theorem sN{s b c}:fB s=some (b,c)↔bP b c=0/\iw b c=s:=by
 unfold fB;constructor
 .intro a;split at a
  .rename_i hc;rw[injEq] at a;rw[a] at hc;exact hc
  cases a
 rintro⟨a,rfl⟩;rw[NX a,if_pos ⟨a,rfl⟩]
theorem Nq(s):nI s=fB s:=by
 cases a:nI s with
 |none=>
  cases c:fB s with
  |none=>rfl
  |some b=>
   obtain⟨d,f⟩:=b;rw[Ee.2 (sN.1 c)] at a;cases a
 |some b=>
  obtain⟨d,f⟩:=b;exact(sN.2 (Ee.1 a)).symm
structure aP (ps:List Prd) (a:Atm):Prop where
 there:∃e:Nat,a.pred=(e:Int)/\e<ps.length
 terms:∀t∈a.args,0<=t.n/\t.n<=25
 few:a.args.length<=2
structure bC (ps:List Prd) (rs:List Rul):Prop where
 preds:ps.length<=5
 rules:rs.length<=8
 name:∀q∈ps,q.name.size<=8
 arity:∀q∈ps,0<=q.arity/\q.arity<=2
 kind:∀q∈ps,0<=q.kind/\q.kind<=3
 head:∀r∈rs,aP ps r.head
 src:∀r∈rs,-1<=r.src/\r.src<=99
 n:∀r∈rs,0<=r.n/\r.n<=99
 few:∀r∈rs,r.body.length<=3
 body:∀r∈rs,∀l∈r.body,aP ps l.atom
theorem yS{a c}(h:ao a c)(j:∀g∈a,0<=g.arity/\g.arity<=2):aP a c:=by
 obtain⟨⟨f,d,e⟩,n,k⟩:=h;refine⟨⟨f,e,d⟩,λl i=>?_,?_⟩
 .have b:=all_eq_true.1 k l i;unfold db bQ at b;split at b<;>simp only[and_eq_true,decide_eq_true_eq] at b<;>exact⟨b.1,Q0⟩
 have m:dN a c.pred=a[f].arity:=by rw[e];simp[dN,d]
 have:=j _ (getElem_mem d);omega
theorem iz{d i}(h:bP d i=0):bC d i:=by
 have f:=qJ h;have c:=(gO h).1;have o:=gN c;rw[ej] at c;split at c
 .contradiction
 split at c
 .contradiction
 rename_i hnm;split at c
 .contradiction
 split at c
 .contradiction
 rename_i har;split at c
 .contradiction
 rename_i hki
 have l:∀q∈d,q.name.size<=8:=λq hq=>by
  have:¬(!fY q.name)=true:=λe=>hnm (any_eq_true.2 ⟨q,hq,e⟩);simp[fY,bQ] at this;omega
 have g:∀q∈d,0<=q.arity/\q.arity<=2:=λq hq=>by
  exact aaR
 have m:∀q∈d,0<=q.kind/\q.kind<=3:=λq hq=>by
  exact aaS
 exact⟨Q0,Q0,l,g,m,λb a=>yS (f.rules b a).head g,λb a=>(f.rules b a).val.src,λb a=>(f.rules b a).val.n,λb a=>(f_ (pV c b a)).2.2.2.2.2.2,λb a k j=>yS ((f.rules b a).body k j) g⟩
theorem xZ{d b}(a:aP d b):bg d b:=⟨a.there,λf c=>⟨(a.terms f c).1,by have:=(a.terms f c).2;omega⟩,by have:=a.few;omega⟩
theorem bC.a{h i}(b:bC h i):bh h i:=
 ⟨by have:=b.preds;omega,by have:=b.rules;omega,b.name,λg f=>⟨(b.arity g f).1,by have:=(b.arity g f).2;omega⟩,λg f=>⟨(b.kind g f).1,by have:=(b.kind g f).2;omega⟩,λd c=>xZ (b.head d c),λd c=>(b.src d c).2,b.n,λd c=>by have:=b.few d c;omega,λd c k j=>xZ (b.body d c k j)⟩
open Go.ChangeShapes Go.WideShapes Go.ChangeAt Go.RowKit
theorem XM(h:p:=by kernel_rfl):p:=h
theorem XN(h:p:=by have:=HBF.out;omega):p:=h
theorem XO(h:p:=by have:=t0;rwa[zero_mul,add_zero] at this):p:=h
theorem XP(h:p:=by have:=t1;rwa[zero_mul,add_zero] at this):p:=h
theorem XQ(h:p:=by have:=t2';rwa[zero_mul,add_zero] at this):p:=h
theorem XR(h:p:=by show _=_;rw[HSB.out,iO,hneg,hA2];rfl):p:=h
theorem XS(h:p:=by show _=_;rw[HSB.out,iO,hneg,if_neg (by simp),if_neg h0,hA2]):p:=h
theorem XT(h:p:=by show _=_;rw[HSB.out,iO,hneg,if_pos rfl,if_neg h0,hA2]):p:=h
theorem aeQ(h:p:=by
 obtain⟨q,hq,rfl,rfl,hbz⟩:=hrel
 obtain⟨f0,f1,f2⟩:=HU wr hbz
 have kz:=bt_ bU hbz
 by_cases hql:q<r.body.length
 .obtain⟨lb,lo,lc,hlv,hlb,t0,t1,av,t2,ta⟩:=cN (HTB wr kz) hql
  obtain⟨rfl,rfl⟩:ba=some ⟨lb,lo,none⟩/\bc=lc:=by simpa using hlv
  have hq1:(q:Int)<(r.body.length:Int):=Q0
  have hq0:(0:Int)<=(q:Int):=Q0
  have hml:=getElem_mem hql
  obtain⟨⟨e2,he2,hel2⟩,hok2,hfew2⟩:=HBO _ hml
  have hcz:(dt ps (dG ps B r) r.body q).size<=2000000000:=by
   have h1:=HBS q
   have h2:q*1600<=500*1600:=mul_le_mul_right _ XN
   omega
  have haz:=qx OK.out.name hfew2
  have HAL:=hid_ (λx hx=>qu x _ _ ps _ e2 (HPZ2 x (kz.trans (hx.mono kz.size))) (cr.a hx ta) he2 hel2 hok2 (oD OK.out.name _) hfew2)
  obtain⟨la,ld,rfl,_⟩:=ta
  have HSB:Hid (dt ps (dG ps B r) r.body (q+1)=iO ps (dt ps (dG ps B r) r.body q) q r.body[q]):=by
   show _=_
   rw[dt,getD,getElem?_eq_getElem hql]
   rfl
  have sW:=lt_of_lt_of_le hs (le_trans hbw.size kz.size)
  have sZ:=lt_of_lt_of_le hZU hbz.size
  clear hlv hml he2 hok2
  generalize r.body[q]=l at*
  generalize hA2:dr ps l.atom=A2 at*
  generalize dt ps (dG ps B r) r.body q=C at*
  have t2':wr.cell? ⟨lb,lo+q*3+1+1,none⟩=some (.slice la l.atom.args ld):=t2
  by_cases h0:q=0
  .subst h0
   have t0':wr.cell? ⟨lb,lo,none⟩=some (.bool l.neg):=XO
   have t1':wr.cell? ⟨lb,lo+1,none⟩=some (.int .i64 l.atom.pred):=XP
   have t3':wr.cell? ⟨lb,lo+1+1,none⟩=some (.slice la l.atom.args ld):=XQ
   cases hneg:l.neg
   .rw[hneg] at t0'
    have HS:Hid (dt ps (dG ps B r) r.body 1=C++⟨#[32,58,45,32]⟩++A2):=XR
    have lim0:¬9223372036854775807<C.size+4:=Q0
    have lim1:¬9223372036854775807<C.size+4+A2.size:=Q0
    clear hcz haz hA2
    go_wp2_with fail
    have L1:=lo_ hlb t1'
    have L2:=lo_ hlb t3'
    have N0:=lo_ sW f1
    have N1:=lo_ sZ f0
    refine dz wr.heap.size XM XM ?_
    repeat(go_big_quiet_step (first|(go_at_call 92;exact dy (HAL _ (Low.low _)))))
    refine wpQuiet_nil ?_
    rintro _ ⟨⟨W3,hb3⟩,rfl⟩
    clear L1 L2 N0 N1
    go_wp2_with fail
    go_roundw
    case rel=>exact⟨1,Q0,Rv,RY,hbz.trans (hb3.mono hbz.size)⟩
    simp[intOf];omega
   rw[hneg] at t0'
   have HS:Hid (dt ps (dG ps B r) r.body 1=C++⟨#[32,58,45,32]⟩++⟨#[33]⟩++A2):=XR
   have lim0:¬9223372036854775807<C.size+4:=Q0
   have lim1:¬9223372036854775807<C.size+4+1:=Q0
   have lim2:¬9223372036854775807<C.size+4+1+A2.size:=Q0
   clear hcz haz hA2
   go_wp2_with fail
   have L1:=lo_ hlb t1'
   have L2:=lo_ hlb t3'
   have N0:=lo_ sW f1
   have N1:=lo_ sZ f0
   refine dz wr.heap.size XM XM ?_
   repeat(go_big_quiet_step (first|(go_at_call 92;exact dy (HAL _ (Low.low _)))))
   refine wpQuiet_nil ?_
   rintro _ ⟨⟨W3,hb3⟩,rfl⟩
   clear L1 L2 N0 N1
   go_wp2_with fail
   go_roundw
   case rel=>exact⟨1,Q0,Rv,RY,hbz.trans (hb3.mono hbz.size)⟩
   simp[intOf];omega
  have h0':(q:Int)≠0:=Q0
  have h0b:((q:Int)==0)=false:=by simpa using h0'
  cases hneg:l.neg
  .rw[hneg] at t0
   have HS:Hid (dt ps (dG ps B r) r.body (q+1)=C++⟨#[44,32]⟩++A2):=XS
   have lim0:¬9223372036854775807<C.size+2:=Q0
   have lim1:¬9223372036854775807<C.size+2+A2.size:=Q0
   clear hcz haz hA2
   go_wp2_with fail
   have L1:=lo_ hlb t1
   have L2:=lo_ hlb t2'
   have N0:=lo_ sW f1
   have N1:=lo_ sZ f0
   refine dz wr.heap.size XM XM ?_
   repeat(go_big_quiet_step (first|(go_at_call 92;exact dy (HAL _ (Low.low _)))))
   refine wpQuiet_nil ?_
   rintro _ ⟨⟨W3,hb3⟩,rfl⟩
   clear L1 L2 N0 N1
   go_wp2_with fail
   go_roundw
   case rel=>exact⟨q+1,Q0,Rv,RY,hbz.trans (hb3.mono hbz.size)⟩
   simp[intOf];omega
  rw[hneg] at t0
  have HS:Hid (dt ps (dG ps B r) r.body (q+1)=C++⟨#[44,32]⟩++⟨#[33]⟩++A2):=XT
  have lim0:¬9223372036854775807<C.size+2:=Q0
  have lim1:¬9223372036854775807<C.size+2+1:=Q0
  have lim2:¬9223372036854775807<C.size+2+1+A2.size:=Q0
  clear hcz haz hA2
  go_wp2_with fail
  have L1:=lo_ hlb t1
  have L2:=lo_ hlb t2'
  have N0:=lo_ sW f1
  have N1:=lo_ sZ f0
  refine dz wr.heap.size XM XM ?_
  repeat(go_big_quiet_step (first|(go_at_call 92;exact dy (HAL _ (Low.low _)))))
  refine wpQuiet_nil ?_
  rintro _ ⟨⟨W3,hb3⟩,rfl⟩
  clear L1 L2 N0 N1
  go_wp2_with fail
  go_roundw
  case rel=>exact⟨q+1,Q0,Rv,RY,hbz.trans (hb3.mono hbz.size)⟩
  simp[intOf];omega
 obtain rfl:q=r.body.length:=Q0
 have HSE:=HSR
 have lim0:¬9223372036854775807<(dt ps (dG ps B r) r.body r.body).size+2:=by
  have h1:=HBS r.body.length
  have h2:r.body.length*1600<=500*1600:=mul_le_mul_right _ HBF.out
  omega
 generalize dt ps (dG ps B r) r.body r.body.length=C at*
 go_wp2_with fail
 go_roundw
 case rel=>exact⟨j+1,Q0,Rv,by rw[HSE.out],hbw.trans ((bU.trans (hbz.mono bU.size)).mono hbw.size)⟩
 simp[intOf];omega):p:=h
theorem aeR(h:p:=by
 obtain⟨lb,lo,lc,hlv,hlb,t0,t1,av,t2,ta⟩:=cN (HTB wr kz) hql
 obtain⟨rfl,rfl⟩:ba=some ⟨lb,lo,none⟩/\bc=lc:=by simpa using hlv
 have hq1:(q:Int)<(r.body.length:Int):=Q0
 have hq0:(0:Int)<=(q:Int):=Q0
 have hml:=getElem_mem hql
 obtain⟨⟨e2,he2,hel2⟩,hok2,hfew2⟩:=HBO _ hml
 have hcz:(dt ps (dG ps B r) r.body q).size<=2000000000:=by
  have h1:=HBS q
  have h2:q*1600<=500*1600:=mul_le_mul_right _ XN
  omega
 have haz:=qx OK.out.name hfew2
 have HAL:=hid_ (λx hx=>qu x _ _ ps _ e2 (HPZ2 x (kz.trans (hx.mono kz.size))) (cr.a hx ta) he2 hel2 hok2 (oD OK.out.name _) hfew2)
 obtain⟨la,ld,rfl,_⟩:=ta
 have HSB:Hid (dt ps (dG ps B r) r.body (q+1)=iO ps (dt ps (dG ps B r) r.body q) q r.body[q]):=by
  show _=_
  rw[dt,getD,getElem?_eq_getElem hql]
  rfl
 have sW:=lt_of_lt_of_le hs (le_trans hbw.size kz.size)
 have sZ:=lt_of_lt_of_le hZU hbz.size
 clear hlv hml he2 hok2
 generalize r.body[q]=l at*
 generalize hA2:dr ps l.atom=A2 at*
 generalize dt ps (dG ps B r) r.body q=C at*
 have t2':wr.cell? ⟨lb,lo+q*3+1+1,none⟩=some (.slice la l.atom.args ld):=t2
 by_cases h0:q=0
 .subst h0
  have t0':wr.cell? ⟨lb,lo,none⟩=some (.bool l.neg):=XO
  have t1':wr.cell? ⟨lb,lo+1,none⟩=some (.int .i64 l.atom.pred):=XP
  have t3':wr.cell? ⟨lb,lo+1+1,none⟩=some (.slice la l.atom.args ld):=XQ
  cases hneg:l.neg
  .rw[hneg] at t0'
   have HS:Hid (dt ps (dG ps B r) r.body 1=C++⟨#[32,58,45,32]⟩++A2):=XR
   have lim0:¬9223372036854775807<C.size+4:=Q0
   have lim1:¬9223372036854775807<C.size+4+A2.size:=Q0
   clear hcz haz hA2
   go_wp2_with fail
   have L1:=lo_ hlb t1'
   have L2:=lo_ hlb t3'
   have N0:=lo_ sW f1
   have N1:=lo_ sZ f0
   refine dz wr.heap.size XM XM ?_
   repeat(go_big_quiet_step (first|(go_at_call 92;exact dy (HAL _ (Low.low _)))))
   refine wpQuiet_nil ?_
   rintro _ ⟨⟨W3,hb3⟩,rfl⟩
   clear L1 L2 N0 N1
   go_wp2_with fail
   go_roundw
   case rel=>exact⟨1,Q0,Rv,RY,hbz.trans (hb3.mono hbz.size)⟩
   simp[intOf];omega
  rw[hneg] at t0'
  have HS:Hid (dt ps (dG ps B r) r.body 1=C++⟨#[32,58,45,32]⟩++⟨#[33]⟩++A2):=XR
  have lim0:¬9223372036854775807<C.size+4:=Q0
  have lim1:¬9223372036854775807<C.size+4+1:=Q0
  have lim2:¬9223372036854775807<C.size+4+1+A2.size:=Q0
  clear hcz haz hA2
  go_wp2_with fail
  have L1:=lo_ hlb t1'
  have L2:=lo_ hlb t3'
  have N0:=lo_ sW f1
  have N1:=lo_ sZ f0
  refine dz wr.heap.size XM XM ?_
  repeat(go_big_quiet_step (first|(go_at_call 92;exact dy (HAL _ (Low.low _)))))
  refine wpQuiet_nil ?_
  rintro _ ⟨⟨W3,hb3⟩,rfl⟩
  clear L1 L2 N0 N1
  go_wp2_with fail
  go_roundw
  case rel=>exact⟨1,Q0,Rv,RY,hbz.trans (hb3.mono hbz.size)⟩
  simp[intOf];omega
 have h0':(q:Int)≠0:=Q0
 have h0b:((q:Int)==0)=false:=by simpa using h0'
 cases hneg:l.neg
 .rw[hneg] at t0
  have HS:Hid (dt ps (dG ps B r) r.body (q+1)=C++⟨#[44,32]⟩++A2):=XS
  have lim0:¬9223372036854775807<C.size+2:=Q0
  have lim1:¬9223372036854775807<C.size+2+A2.size:=Q0
  clear hcz haz hA2
  go_wp2_with fail
  have L1:=lo_ hlb t1
  have L2:=lo_ hlb t2'
  have N0:=lo_ sW f1
  have N1:=lo_ sZ f0
  refine dz wr.heap.size XM XM ?_
  repeat(go_big_quiet_step (first|(go_at_call 92;exact dy (HAL _ (Low.low _)))))
  refine wpQuiet_nil ?_
  rintro _ ⟨⟨W3,hb3⟩,rfl⟩
  clear L1 L2 N0 N1
  go_wp2_with fail
  go_roundw
  case rel=>exact⟨q+1,Q0,Rv,RY,hbz.trans (hb3.mono hbz.size)⟩
  simp[intOf];omega
 rw[hneg] at t0
 have HS:Hid (dt ps (dG ps B r) r.body (q+1)=C++⟨#[44,32]⟩++⟨#[33]⟩++A2):=XT
 have lim0:¬9223372036854775807<C.size+2:=Q0
 have lim1:¬9223372036854775807<C.size+2+1:=Q0
 have lim2:¬9223372036854775807<C.size+2+1+A2.size:=Q0
 clear hcz haz hA2
 go_wp2_with fail
 have L1:=lo_ hlb t1
 have L2:=lo_ hlb t2'
 have N0:=lo_ sW f1
 have N1:=lo_ sZ f0
 refine dz wr.heap.size XM XM ?_
 repeat(go_big_quiet_step (first|(go_at_call 92;exact dy (HAL _ (Low.low _)))))
 refine wpQuiet_nil ?_
 rintro _ ⟨⟨W3,hb3⟩,rfl⟩
 clear L1 L2 N0 N1
 go_wp2_with fail
 go_roundw
 case rel=>exact⟨q+1,Q0,Rv,RY,hbz.trans (hb3.mono hbz.size)⟩
 simp[intOf];omega):p:=h
theorem adP(h:p:=by
 subst h0
 have t0':wr.cell? ⟨lb,lo,none⟩=some (.bool l.neg):=XO
 have t1':wr.cell? ⟨lb,lo+1,none⟩=some (.int .i64 l.atom.pred):=XP
 have t3':wr.cell? ⟨lb,lo+1+1,none⟩=some (.slice la l.atom.args ld):=XQ
 cases hneg:l.neg
 .rw[hneg] at t0'
  have HS:Hid (dt ps (dG ps B r) r.body 1=C++⟨#[32,58,45,32]⟩++A2):=XR
  have lim0:¬9223372036854775807<C.size+4:=Q0
  have lim1:¬9223372036854775807<C.size+4+A2.size:=Q0
  clear hcz haz hA2
  go_wp2_with fail
  have L1:=lo_ hlb t1'
  have L2:=lo_ hlb t3'
  have N0:=lo_ sW f1
  have N1:=lo_ sZ f0
  refine dz wr.heap.size XM XM ?_
  repeat(go_big_quiet_step (first|(go_at_call 92;exact dy (HAL _ (Low.low _)))))
  refine wpQuiet_nil ?_
  rintro _ ⟨⟨W3,hb3⟩,rfl⟩
  clear L1 L2 N0 N1
  go_wp2_with fail
  go_roundw
  case rel=>exact⟨1,Q0,Rv,RY,hbz.trans (hb3.mono hbz.size)⟩
  simp[intOf];omega
 rw[hneg] at t0'
 have HS:Hid (dt ps (dG ps B r) r.body 1=C++⟨#[32,58,45,32]⟩++⟨#[33]⟩++A2):=XR
 have lim0:¬9223372036854775807<C.size+4:=Q0
 have lim1:¬9223372036854775807<C.size+4+1:=Q0
 have lim2:¬9223372036854775807<C.size+4+1+A2.size:=Q0
 clear hcz haz hA2
 go_wp2_with fail
 have L1:=lo_ hlb t1'
 have L2:=lo_ hlb t3'
 have N0:=lo_ sW f1
 have N1:=lo_ sZ f0
 refine dz wr.heap.size XM XM ?_
 repeat(go_big_quiet_step (first|(go_at_call 92;exact dy (HAL _ (Low.low _)))))
 refine wpQuiet_nil ?_
 rintro _ ⟨⟨W3,hb3⟩,rfl⟩
 clear L1 L2 N0 N1
 go_wp2_with fail
 go_roundw
 case rel=>exact⟨1,Q0,Rv,RY,hbz.trans (hb3.mono hbz.size)⟩
 simp[intOf];omega):p:=h
theorem adR(h:p:=by
 clear hcz haz hA2
 go_wp2_with fail
 have L1:=lo_ hlb t1
 have L2:=lo_ hlb t2'
 have N0:=lo_ sW f1
 have N1:=lo_ sZ f0
 refine dz wr.heap.size XM XM ?_
 repeat(go_big_quiet_step (first|(go_at_call 92;exact dy (HAL _ (Low.low _)))))
 refine wpQuiet_nil ?_
 rintro _ ⟨⟨W3,hb3⟩,rfl⟩
 clear L1 L2 N0 N1
 go_wp2_with fail
 go_roundw
 case rel=>exact⟨q+1,Q0,Rv,RY,hbz.trans (hb3.mono hbz.size)⟩
 simp[intOf];omega):p:=h
theorem adS(h:p:=by
 clear hcz haz hA2
 go_wp2_with fail
 have L1:=lo_ hlb t1'
 have L2:=lo_ hlb t3'
 have N0:=lo_ sW f1
 have N1:=lo_ sZ f0
 refine dz wr.heap.size XM XM ?_
 repeat(go_big_quiet_step (first|(go_at_call 92;exact dy (HAL _ (Low.low _)))))
 refine wpQuiet_nil ?_
 rintro _ ⟨⟨W3,hb3⟩,rfl⟩
 clear L1 L2 N0 N1
 go_wp2_with fail
 go_roundw
 case rel=>exact⟨1,Q0,Rv,RY,hbz.trans (hb3.mono hbz.size)⟩
 simp[intOf];omega):p:=h
theorem ZT(h:p:=by
 have h1:=HBS r.body.length
 have h2:r.body.length*1600<=500*1600:=mul_le_mul_right _ HBF.out
 omega):p:=h
theorem aan(h:p:=by
 have h1:=HBS q
 have h2:q*1600<=500*1600:=mul_le_mul_right _ XN
 omega):p:=h
theorem aaP(h:p:=by
 show _=_
 rw[dt,getD,getElem?_eq_getElem hql]
 rfl):p:=h
theorem afr(h:p:=by
 go_wp2_with fail
 clear lm0 lm1 lm2 lm3 lm4 lm5 lm6
 go_loopw [3,7] (λs i wz=>∃q:Nat,q<=r.body.length/\i=.int .i64 q/\s=.string (dt ps (dG ps B r) r.body q)/\Below U U wz) (λ_ i _=>r.body.length-(intOf i).toNat)
 case atStart=>exact⟨0,zero_le _,rfl,by rw[dt,HH.out],q4⟩
 exact aeQ):p:=h
theorem Pa(c:World)(aL aQ ps b)(aH:bR c aL ps)(aJ:ck c aQ b)(S:bh ps b):Calls prog 39 #[.agg #[aL,aQ]] c λe bp=>e=.returned (.string (ko ps b))/\Below c c bp:=by
 have X:=lp_ aH;have aY:=lr_ aJ;have OK:=hid_ S;have an:=hid_ (EX S.name);obtain⟨T,A,rfl,_⟩:=aH;obtain⟨aj,V,rfl,_⟩:=aJ;have bx:=S.preds;have bA:=S.rules;obtain⟨g,hW1⟩:=ex_ (c.alloc (.cells #[.slice T ps A,.slice aj b V] 30));have ap:Below c c g:=RT;have aq:g.cell? c=some (.slice T ps A):=RU;have ar:g.cell? ⟨c,1,none⟩=some (.slice aj b V):=RU;have hs:c.heap.size<g.heap.size:=RW;have D:=hid_ λx (hx:Below g g x)=>an_ ((bF hx hs).trans aq) ((bF hx hs).trans ar);clear aq ar;go_enter func39,ntmps39;go_wp2_with fail;clear hW1;go_loopw [3,4] (λs i wr=>∃j:Nat,j<=ps.length/\i=.int .i64 j/\s=.string (jY ps j)/\Below g g wr) (λ_ i _=>ps.length-(intOf i).toNat)
 case atStart=>exact⟨0,zero_le _,rfl,rfl,Below.refl _ _⟩
 obtain⟨j,aC,rfl,rfl,hbw⟩:=hrel;obtain⟨aa,au⟩:=D wr hbw;have v:=bt_ ap hbw;by_cases u:j<ps.length
 .obtain⟨w,y,ai,hv,F,Q,R,K⟩:=cN (X wr v) u;obtain⟨rfl,rfl⟩:T=some ⟨w,y,none⟩/\A=ai:=RX;have a9:(j:Int)<(ps.length:Int):=Q0;have a8:(0:Int)<=(j:Int):=Q0;have bo:=lt_of_lt_of_le hs hbw.size;have d:=getElem_mem u;have bd:=OK.out.name _ d;obtain⟨az,aA⟩:=OK.out.arity _ d;obtain⟨h,ah⟩:=OK.out.kind _ d
  have HS:Hid (jY ps (j+1)=qH (jY ps j) ps[j]):=by
   show _=_;rw[jY,getD,getElem?_eq_getElem u];rfl
  have a5:=an j;have bf:=gF ps[j].arity;have bg:=gF ps[j].kind;have L:=hid_ (λx=>ph x _ az aA);have aU:=hid_ (λx=>ph x _ h ah);clear hv d az aA h ah;generalize ps[j]=q at*;generalize jY ps j=B at*;have lim0:¬9223372036854775807<B.size+5:=Q0;have lim1:¬9223372036854775807<B.size+5+q.name.size:=Q0;have lim2:¬9223372036854775807<B.size+5+q.name.size+1:=Q0;have bC:¬9223372036854775807<B.size+5+q.name.size+1+(b_ q.arity).size:=Q0;have bD:¬9223372036854775807<B.size+5+q.name.size+1+(b_ q.arity).size+1:=Q0;have bE:¬9223372036854775807<B.size+5+q.name.size+1+(b_ q.arity).size+1+(b_ q.kind).size:=Q0;have bG:¬9223372036854775807<B.size+5+q.name.size+1+(b_ q.arity).size+1+(b_ q.kind).size+1:=Q0;clear a5 bf bg bd;go_wp2_with fail;have aZ:=lo_ F Q;have L1:=lo_ F R;have L2:=lo_ F K;have N0:=lo_ bo aa;refine dz wr.heap.size XM XM ?_;repeat(go_big_quiet_step (first|(go_at_call_of 41 (Value.int .i64 q.arity);exact dy (L _))|(go_at_call_of 41 (Value.int .i64 q.kind);exact dy (aU _))))
  refine wpQuiet_nil ?_;rintro _ ⟨⟨bI,ag⟩,rfl⟩;clear aZ L1 L2 N0 aa au Q R K;go_wp2_with fail;go_roundw
  case rel=>exact⟨j+1,Q0,Rv,by rw[HS.out];rfl,hbw.trans (ag.mono hbw.size)⟩
  exact adT
 obtain rfl:j=ps.length:=Q0;have aT:=hid_ hbw;have aX:Hid ((jY ps ps).size<=10000):=by show _<=_;have:=an ps.length;omega
 have ao:Hid (∀I,I<=b.length->(iA ps (jY ps ps) b I).size<=10000+I*1000000):=λI ag=>le_trans (E_ OK _ I ag) (by have:=aX.out;omega);go_wp2_with fail;obtain⟨E,N⟩:=ex_ (jY ps ps.length);rw[N] at ao;have aW:Hid (ko ps b=iA ps E b b):=by show _=_;rw[ko,N]
 rw[N];clear N;go_loopw [3,5] (λs i wr=>∃j:Nat,j<=b.length/\i=.int .i64 j/\s=.string (iA ps E b j)/\Below g g wr) (λ_ i _=>b.length-(intOf i).toNat)
 case atStart=>exact⟨0,zero_le _,rfl,rfl,aT.out⟩
 obtain⟨j,aC,rfl,rfl,hbw⟩:=hrel;rename World=>Z;obtain⟨aa,au⟩:=D Z hbw;have v:=bt_ ap hbw;by_cases u:j<b.length
 .obtain⟨aO,aP,bn,hv,bz,aN,⟨bB,bj,aS⟩,bk,bl,br,bm,aR⟩:=cN (aY Z v) u;obtain⟨rfl,rfl⟩:aj=some ⟨aO,aP,none⟩/\V=bn:=RX;have a9:(j:Int)<(b.length:Int):=Q0;have a8:(0:Int)<=(j:Int):=Q0;have d:=getElem_mem u;obtain⟨⟨e,P,ae⟩,aG,af⟩:=OK.out.head _ d
  have HSR:Hid (iA ps E b (j+1)=dt ps (dG ps (iA ps E b j) b[j]) b[j].body b[j].body.length++⟨#[46,10]⟩):=by
   show _=_;rw[iA,getD,getElem?_eq_getElem u];rfl
  have hbz:=ao j aC;have am:Hid (∀B:ByteArray,(dG ps B b[j]).size<=B.size+1600):=λB=>El OK.out.name af;have ak:Hid (∀(B:ByteArray) q,(dt ps (dG ps B b[j]) b[j].body q).size<=B.size+1600+q*1600):=λB q=>le_trans (yd OK.out.name (λl bb=>(OK.out.body _ d l bb).few) q) (by have:=am B;omega);have HBF:=hid_ (OK.out.few _ d);have HBO:=hid_ (OK.out.body _ d);have aK:=OK.out.src _ d;obtain⟨aE,aF⟩:=OK.out.n _ d;have haz:=qx OK.out.name af;have a6:=gF b[j].src;have a7:=gF b[j].n;have HPZ2:=hid_ λx (hx:Below Z Z x)=>X x (v.trans (hx.mono v.size));have W:=hid_ (λx hx=>qu x _ _ ps _ e (HPZ2 x hx) (cr.a hx aS) P ae aG (oD OK.out.name _) af);have HTB:=lb_ aR;have aV:=hid_ (λa4 x=>ph x _ a4 aK);have al:=hid_ (λx=>ph x _ aE aF);obtain⟨w,y,ai,aI,F,Q,R,K⟩:=cN (X Z v) ae;obtain⟨rfl,rfl⟩:T=some ⟨w,y,none⟩/\A=ai:=by simpa using aI
  have aD:bJ ps b[j].head.pred=ps[e].kind:=by rw[bJ,P,Int.toNat_natCast,getElem?_eq_getElem ae];rfl
  have bi:Z.cell? ⟨w,y+e*3+2,none⟩=some (.int .i64 (bJ ps b[j].head.pred)):=by rw[aD];exact K
  have bu:(e:Int)<(ps.length:Int):=Q0;obtain⟨ay,aB,rfl,_⟩:=aS;obtain⟨ba,bc,rfl,_⟩:=aR;rw[P] at aN W;clear hv aI d aG aK aE aF Q R K aD;generalize b[j]=r at*;have M:Hid (∀B:ByteArray,dG ps B r=if bJ ps r.head.pred=0 then B++dr ps r.head else if 0<=r.src then B++dr ps r.head++⟨#[32,61,32]⟩++⟨#[35]⟩++b_ r.src++⟨#[43]⟩++b_ r.n else B++dr ps r.head++⟨#[32,61,32]⟩++b_ r.n):=λB=>rfl;generalize bJ ps r.head.pred=J at*;clear P;obtain⟨B,ab⟩:=ex_ (iA ps E b j);rw[ab] at hbz HSR;have HBS:=hid_ (ak B);have bt:B.size<=600000000:=Q0;obtain⟨U,ac⟩:=ex_ (Z.alloc (.cells #[e,.slice ay r.head.args aB,r.src,r.n,.slice ba r.body bc] 58));have bU:Below Z Z U:=by rw[<-ac];exact bH _ _
  have k:U.cell? Z=some (.int .i64 (e:Int))/\U.cell? ⟨Z,1,none⟩=some (.slice ay r.head.args aB)/\U.cell? ⟨Z,2,none⟩=some (.int .i64 r.src)/\U.cell? ⟨Z,3,none⟩=some (.int .i64 r.n)/\U.cell? ⟨Z,4,none⟩=some (.slice ba r.body bc)/\Z.heap.size<U.heap.size:=by rw[<-ac];simp[go_sem]
  have Y:Hid (∀x,Below U U x->x.cell? Z=some (.int .i64 (e:Int))/\x.cell? ⟨Z,2,none⟩=some (.int .i64 r.src)/\x.cell? ⟨Z,3,none⟩=some (.int .i64 r.n)/\x.cell? c=some (.slice (some ⟨w,y,none⟩) ps A)/\x.cell? ⟨w,y+e*3+2,none⟩=some (.int .i64 J)):=λx hx=>by
   have H:=bt_ bU hx;exact⟨(bF hx k.2.2.2.2.2).trans k.1,(bF hx k.2.2.2.2.2).trans k.2.2.1,(bF hx k.2.2.2.2.2).trans k.2.2.2.1,(D x (hbw.trans (H.mono hbw.size))).1,(bF H F).trans bi⟩
  have HU:Hid (∀x,Below U U x->x.cell? ⟨Z,4,none⟩=some (.slice ba r.body bc)/\x.cell? c=some (.slice (some ⟨w,y,none⟩) ps A)/\x.cell? ⟨c,1,none⟩=some (.slice (some ⟨aO,aP,none⟩) b V)):=λx hx=>by
   have H:=hbw.trans ((bU.trans (hx.mono bU.size)).mono hbw.size);exact⟨(bF hx k.2.2.2.2.2).trans k.2.2.2.2.1,(D x H).1,(D x H).2⟩
  obtain⟨o,a2,p,t,a3,hZU⟩:=k;obtain⟨f,ax⟩:=ex_ (dr ps r.head);rw[ax] at W haz M;rw[ab];clear ax ab ak am;obtain⟨_,_,_,z,m⟩:=Y U (Below.refl _ _);have lm0:¬9223372036854775807<B.size+f.size:=Q0;have lm1:¬9223372036854775807<B.size+f.size+3:=Q0;have lm2:¬9223372036854775807<B.size+f.size+3+1:=Q0;have lm3:¬9223372036854775807<B.size+f.size+3+1+(b_ r.src).size:=Q0;have lm4:¬9223372036854775807<B.size+f.size+3+1+(b_ r.src).size+1:=Q0;have lm5:¬9223372036854775807<B.size+f.size+3+1+(b_ r.src).size+1+(b_ r.n).size:=Q0;have lm6:¬9223372036854775807<B.size+f.size+3+(b_ r.n).size:=Q0;have bq:=hid_ trivial;clear haz a6 a7 hbz;go_wp2_with fail;clear ac aN bj bk bl bm;refine(W _ bU).mono ?_;rintro bs a0 ⟨rfl,O⟩;clear o a2 p t a3 z m;obtain⟨o,p,t,z,m⟩:=Y a0 O;by_cases h:J=0
  .have HH:Hid (dG ps B r=B++f):=by show _=_;rw[M.out,if_pos h]
   rw[h] at m;go_wp2_with fail;clear o p t z m lm0 lm1 lm2 lm3 lm4 lm5 lm6;go_loopw [3,7] (λs i wz=>∃q:Nat,q<=r.body.length/\i=.int .i64 q/\s=.string (dt ps (dG ps B r) r.body q)/\Below U U wz) (λ_ i _=>r.body.length-(intOf i).toNat)
   case atStart=>exact⟨0,zero_le _,rfl,by rw[dt,HH.out],O⟩
   exact aeQ
  have ah:J≠0:=h;have bv:(J==0)=false:=by simpa using h
  have bw:(J != 0)=true:=by simpa using h
  by_cases G:0<=r.src
  .have HH:Hid (dG ps B r=B++f++⟨#[32,61,32]⟩++⟨#[35]⟩++b_ r.src++⟨#[43]⟩++b_ r.n):=by show _=_;rw[M.out,if_neg h,if_pos G]
   have L:=aV G;have be:r.src>=0:=G;go_wp2_with fail;refine(L _).mono ?_;rintro aw W3 ⟨rfl,hb3⟩;have aM:=bt_ O hb3;clear o p t z m;obtain⟨o,p,t,z,m⟩:=Y W3 aM;go_wp2_with fail;refine(al _).mono ?_;rintro aw a1 ⟨rfl,ad⟩;have q4:=bt_ aM ad;clear o p t z m L;exact afr
  have HH:Hid (dG ps B r=B++f++⟨#[32,61,32]⟩++b_ r.n):=by show _=_;rw[M.out,if_neg h,if_neg G]
  have be:¬r.src>=0:=G;go_wp2_with fail;refine(al _).mono ?_;rintro aw a1 ⟨rfl,ad⟩;have q4:=bt_ O ad;clear o p t z m;exact afr
 obtain rfl:j=b.length:=Q0;go_wp2_with fail;go_ret;exact⟨by rw[aW.out];rfl,v⟩
