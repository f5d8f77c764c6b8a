import Derived.Deep.AppendLies
import Derived.Deep.DeepAppendWide
import Derived.Test.YtlfccloaoopadagGreatDoorG4
import Derived.Test.YtlfccloaoopadagGreatDoorG6
open Go.Proofs.Tryz
set_option maxRecDepth 100000
set_option maxHeartbeats 0
open List (length_cons length_map map_cons mem_cons)
namespace Go.Proofs.YtlfccloaoopadagGreatDoor
open Go.ChangeShapes Go.WideShapes Go.ChangeAt Go.RowKit
variable{p:Prop}
theorem rT(a c b):(⟨a,c,none⟩:Addr).add b=⟨a,c+b,none⟩:=by simp[Addr.add]
structure RV where
 r:Rul
 hv:Value
 bv:Value
def ci:List RV->List Value
 |[]=>[]
 |x::l=>.int .i64 x.r.head.pred::x.hv:: .int .i64 x.r.src:: .int .i64 x.r.n::x.bv::ci l
def hZ(w:World)(x:RV):Prop:=cr w x.hv x.r.head.args/\dC w x.bv x.r.body
theorem hZ.a{b f:World}(d:Below b b f){g}(c:hZ b g):hZ f g:=⟨cr.a d c.1,dC.a d c.2⟩
theorem oo:∀l,(ci l).length=l.length*5
 |[]=>rfl
 |x::l=>by simp only[ci,length_cons,oo l];omega
theorem rX:∀l a,ci (l++a)=ci l++ci a
 |[],a=>rfl
 |x::l,a=>by simp only[List.cons_append,ci,rX l a]
theorem uK:∀(l:List RV) (a:Nat) (b:RV),l[a]? =some b->(ci l)[a*5]? =some (.int .i64 b.r.head.pred)/\(ci l)[a*5+1]? =some b.hv/\(ci l)[a*5+2]? =some (.int .i64 b.r.src)/\(ci l)[a*5+3]? =some (.int .i64 b.r.n)/\(ci l)[a*5+4]? =some b.bv
 |[],a,b,h=>Rf
 |y::l,0,b,h=>by
  obtain rfl:y=b:=Q2
  exact⟨rfl,rfl,rfl,rfl,rfl⟩
 |y::l,a+1,b,h=>by
  have:=uK l a b Q2
  rw[show(a+1)*5=a*5+5 by omega]
  simpa[ci] using this
theorem Di:∀(l:List RV) (a:Nat) (b:RV),ci (l.set a b)=(((((ci l).set (a*5) b.r.head.pred).set (a*5+1) b.hv).set (a*5+2) b.r.src).set (a*5+3) b.r.n).set (a*5+4) b.bv
 |[],a,b=>by simp[ci]
 |y::l,0,b=>by simp[ci]
 |y::l,a+1,b=>by
  rw[show(a+1)*5=a*5+5 by omega]
  simp[ci,Di l a b]
theorem Dq{c:World}{a l}(b:cr c a l):a.oneCell'=true:=by
 obtain⟨d,f,rfl,_⟩:=b;rfl
theorem Ml{c:World}{a l}(b:dC c a l):a.oneCell'=true:=by
 obtain⟨d,f,rfl,_⟩:=b;rfl
theorem pd{f:World}:∀{l:List RV},(∀x∈l,hZ f x)->∀a∈ci l,a.oneCell'=true
 |[],_,a,hu=>by cases hu
 |x::l,b,a,hu=>by
  have c:=b x Q1
  simp only[ci,mem_cons] at hu
  rcases hu with rfl|rfl|rfl|rfl|rfl|hu
  .rfl
  .exact Dq c.1
  .rfl
  .rfl
  .exact Ml c.2
  exact pd (λg d=>b g (by simp[d])) a hu
theorem ST(h:p:=by simpa using hi):p:=h
theorem SU(h:p:=by simpa[ci] using hj):p:=h
theorem DA{h:World}{i}:∀(g:List Rul) (a:Nat),(∀d c,g[d]? =some c->zk h i (a+d*5) c)->∃f:List RV,f.map RV.r=g/\(∀c∈f,hZ h c)/\∀j b,(ci f)[j]? =some b->h.cell? ⟨i,a+j,none⟩=some b
 |[],a,_=>⟨[],rfl,Q1,by simp[ci]⟩
 |r::g,a,l=>by
  obtain⟨f,o,p,q⟩:=DA g (a+5) (λd c hi=>by
   have:=l (d+1) c ST
   rw[show a+(d+1)*5=a+5+d*5 by omega] at this
   exact this)
  obtain⟨s,⟨m,t,u⟩,v,w,k,x,y⟩:=l 0 r rfl
  refine⟨⟨r,m,k⟩::f,by rw[map_cons,o],?_,?_⟩
  .intro c hx
   rcases mem_cons.1 hx with rfl|hx
   .exact⟨u,y⟩
   exact p c hx
  intro j b hj
  match j,hj with
  |0,hj=>
   obtain rfl:Value.int .i64 r.head.pred=b:=SU
   exact s
  |1,hj=>
   obtain rfl:m=b:=SU
   exact t
  |2,hj=>
   obtain rfl:Value.int .i64 r.src=b:=SU
   exact v
  |3,hj=>
   obtain rfl:Value.int .i64 r.n=b:=SU
   exact w
  |4,hj=>
   obtain rfl:k=b:=SU
   exact x
  |j+5,hj=>
   have:=q j b SU
   rw[show a+(j+5)=a+5+j by omega]
   exact this
theorem Mp{h:World}{l c}(m:ck h l c):∃(d:List RV) (f:Option Addr) (g:Nat),l=.slice f c g/\d.map RV.r=c/\(∀s∈d,hZ h s)/\(c=[]\/∃a b,f=some ⟨a,b,none⟩/\a<h.heap.size/\∀j k,(ci d)[j]? =some k->h.cell? ⟨a,b+j,none⟩=some k):=by
 obtain⟨f,g,rfl,t,i⟩:=m;rcases i with rfl|⟨a,b,rfl,q,i⟩
 .exact⟨[],f,g,rfl,rfl,Q1,.inl rfl⟩
 obtain⟨d,n,o,p⟩:=DA c b i;exact⟨d,_,g,rfl,n,o,.inr ⟨a,b,rfl,q,p⟩⟩
theorem uO{c:World}{q:Nat}{e:TypeId}{o:Value}{l:List RV}(t:c.ownsRow q e 5 o l (ci l))(hl:l.length<=140737488355328)(w:∀p∈l,hZ c p):ck c o (l.map RV.r):=by
 obtain⟨H,u⟩:=t;rcases u with⟨rfl,v⟩|⟨g,s,G,rfl,I,hg,J,L,M,x⟩
 .have:l=[]:=List.eq_nil_of_length_eq_zero v;subst this;exact⟨none,0,rfl,Q1,.inl rfl⟩
 refine⟨_,s,Rj,Ri,.inr ⟨g,0,rfl,?_,?_⟩⟩
 .exact(Array.getElem?_eq_some_iff.1 hg).1
 intro y p h;rw[List.getElem?_map] at h;obtain⟨F,d,rfl⟩:=Option.map_eq_some_iff.1 h;have K:=(List.getElem?_eq_some_iff.1 d).1;obtain⟨z,A,B,C,D⟩:=uK l y F d
 have a:∀b f,(ci l)[b]? =some f->c.cell? ⟨g,0+b,none⟩=some f:=by
  intro b f hz;rw[<-x] at hz
  have hj:b<l.length*5:=by
   exact Z2
  exact aba
 have E:=a _ _ z;have j:=a _ _ A;have k:=a _ _ B;have m:=a _ _ C;have n:=a _ _ D;rw[<-Nat.add_assoc] at j k m n;have i:=w _ (List.mem_of_getElem? d);exact⟨E,⟨_,j,i.1⟩,k,m,_,n,i.2⟩
theorem lh:(prog.info? 58).map (λa=>(a.zero,a.size,a.bytes))=some (some (.agg #[.int .i64 0,.slice none 0 0,.int .i64 0,.int .i64 0,.slice none 0 0]),5,72):=by kernel_rfl
def dW:List Tm->List Value
 |[]=>[]
 |t::l=>.bool t.var:: .int .i64 t.n::dW l
theorem xO:∀l,(dW l).length=l.length*2
 |[]=>rfl
 |x::l=>by simp only[dW,length_cons,xO l];omega
theorem Dj:∀(l:List Tm) (a:Nat) (b:Tm),l[a]? =some b->(dW l)[a*2]? =some (.bool b.var)/\(dW l)[a*2+1]? =some (.int .i64 b.n)
 |[],a,b,h=>Rf
 |y::l,0,b,h=>by
  obtain rfl:y=b:=Q2
  exact⟨rfl,rfl⟩
 |y::l,a+1,b,h=>by
  have:=Dj l a b Q2
  rw[show(a+1)*2=a*2+2 by omega]
  simpa[dW] using this
theorem Dk:∀l,∀a∈dW l,a.oneCell'=true
 |[],a,h=>by cases h
 |x::l,a,h=>by
  simp only[dW,mem_cons] at h
  rcases h with rfl|rfl|h
  .rfl
  .rfl
  exact Dk l a h
structure LV where
 l:Ltr
 av:Value
def d9:List LV->List Value
 |[]=>[]
 |x::l=>.bool x.l.neg:: .int .i64 x.l.atom.pred::x.av::d9 l
def nB(w:World)(x:LV):Prop:=cr w x.av x.l.atom.args
theorem nB.a{b c:World}(g:Below b b c){d}(f:nB b d):nB c d:=cr.a g f
theorem uJ:∀l,(d9 l).length=l.length*3
 |[]=>rfl
 |x::l=>by simp only[d9,length_cons,uJ l];omega
theorem rW:∀(l:List LV) (a:Nat) (b:LV),l[a]? =some b->(d9 l)[a*3]? =some (.bool b.l.neg)/\(d9 l)[a*3+1]? =some (.int .i64 b.l.atom.pred)/\(d9 l)[a*3+2]? =some b.av
 |[],a,b,h=>Rf
 |y::l,0,b,h=>by
  obtain rfl:y=b:=Q2
  exact⟨rfl,rfl,rfl⟩
 |y::l,a+1,b,h=>by
  have:=rW l a b Q2
  rw[show(a+1)*3=a*3+3 by omega]
  simpa[d9] using this
theorem Df{f:World}:∀{l:List LV},(∀x∈l,nB f x)->∀a∈d9 l,a.oneCell'=true
 |[],_,a,hu=>by cases hu
 |x::l,b,a,hu=>by
  have c:=b x Q1
  simp only[d9,mem_cons] at hu
  rcases hu with rfl|rfl|rfl|hu
  .rfl
  .rfl
  .exact Dq c
  exact Df (λg d=>b g (by simp[d])) a hu
theorem Dg:∀(l:List LV) (a:Nat) (b:LV),d9 (l.set a b)=(((d9 l).set (a*3) (.bool b.l.neg)).set (a*3+1) b.l.atom.pred).set (a*3+2) b.av
 |[],a,b=>by simp[d9]
 |y::l,0,b=>by simp[d9]
 |y::l,a+1,b=>by
  rw[show(a+1)*3=a*3+3 by omega]
  simp[d9,Dg l a b]
def dP:List Prd->List Value
 |[]=>[]
 |x::l=>.string x.name:: .int .i64 x.arity:: .int .i64 x.kind::dP l
theorem o_:∀l,(dP l).length=l.length*3
 |[]=>rfl
 |x::l=>by simp only[dP,length_cons,o_ l];omega
theorem Dh:∀(l:List Prd) (a:Nat) (b:Prd),l[a]? =some b->(dP l)[a*3]? =some (.string b.name)/\(dP l)[a*3+1]? =some (.int .i64 b.arity)/\(dP l)[a*3+2]? =some (.int .i64 b.kind)
 |[],a,b,h=>Rf
 |y::l,0,b,h=>by
  obtain rfl:y=b:=Q2
  exact⟨rfl,rfl,rfl⟩
 |y::l,a+1,b,h=>by
  have:=Dh l a b Q2
  rw[show(a+1)*3=a*3+3 by omega]
  simpa[dP] using this
theorem qi:∀l,∀a∈dP l,a.oneCell'=true
 |[],a,h=>by cases h
 |x::l,a,h=>by
  simp only[dP,mem_cons] at h
  rcases h with rfl|rfl|rfl|h
  .rfl
  .rfl
  .rfl
  exact qi l a h
def eE(w:World)(v:Value)(n:Nat)(cs:List Value):Prop:=
 (∃c,v=.slice none 0 c/\n=0/\cs=[])\/∃ad c,v=.slice (some ad) n c/\∀j u,cs[j]? =some u->w.cell? (ad.add j)=some u
theorem rU{a:World}{p c}(b:a.cell? p=some c):p.block<a.heap.size:=by
 refine Classical.byContradiction λd=>?_;have:a.heap[p.block]? =none:=by simp;omega
 simp[World.cell?,this] at b
theorem eE.a{c k:World}{j n d}(b:eE c j n d)(p:Below c c k):eE k j n d:=by
 rcases b with b|⟨l,m,o,f⟩
 .exact .inl b
 exact .inr ⟨l,m,o,λh i g=>(p.cell (rU (f h i g))).trans (f h i g)⟩
theorem SV(h:p:=by simpa[dW] using hj):p:=h
theorem DF{h:World}{g}:∀(l:List Tm) (a:Nat),(∀c f,l[c]? =some f->oM h g (a+c*2) f)->∀j b,(dW l)[j]? =some b->h.cell? ⟨g,a+j,none⟩=some b
 |[],a,_,j,b,d=>by simp[dW] at d
 |t::l,a,d,j,b,hj=>by
  have ih:=DF l (a+2) (λc f hi=>by
   have:=d (c+1) f ST
   rw[show a+(c+1)*2=a+2+c*2 by omega] at this
   exact this)
  obtain⟨i,k⟩:=d 0 t rfl
  match j,hj with
  |0,hj=>
   obtain rfl:Value.bool t.var=b:=SV
   exact i
  |1,hj=>
   obtain rfl:Value.int .i64 t.n=b:=SV
   exact k
  |j+2,hj=>
   have:=ih j b SV
   rw[show a+(j+2)=a+2+j by omega]
   exact this
theorem SW(h:p:=by simpa[dP] using hj):p:=h
theorem Dx{h:World}{g}:∀(l:List Prd) (a:Nat),(∀c f,l[c]? =some f->py h g (a+c*3) f)->∀j b,(dP l)[j]? =some b->h.cell? ⟨g,a+j,none⟩=some b
 |[],a,_,j,b,d=>by simp[dP] at d
 |t::l,a,d,j,b,hj=>by
  have ih:=Dx l (a+3) (λc f hi=>by
   have:=d (c+1) f ST
   rw[show a+(c+1)*3=a+3+c*3 by omega] at this
   exact this)
  obtain⟨i,k,m⟩:=d 0 t rfl
  match j,hj with
  |0,hj=>
   obtain rfl:Value.string t.name=b:=SW
   exact i
  |1,hj=>
   obtain rfl:Value.int .i64 t.arity=b:=SW
   exact k
  |2,hj=>
   obtain rfl:Value.int .i64 t.kind=b:=SW
   exact m
  |j+3,hj=>
   have:=ih j b SW
   rw[show a+(j+3)=a+3+j by omega]
   exact this
theorem Mr{h:World}{g l}(k:cr h g l):eE h g l (dW l):=by
 obtain⟨i,a,rfl,_,c⟩:=k;rcases c with rfl|⟨n,m,rfl,_,c⟩
 .cases i with
  |none=>exact .inl ⟨a,rfl,rfl,rfl⟩
  |some j=>exact .inr ⟨j,a,rfl,λd f b=>by simp[dW] at b⟩
 exact .inr ⟨_,a,rfl,λd f b=>by rw[rT];exact DF l m c d f b⟩
theorem Dy{h:World}{g l}(k:bR h g l):eE h g l (dP l):=by
 obtain⟨i,a,rfl,_,c⟩:=k;rcases c with rfl|⟨n,m,rfl,_,c⟩
 .cases i with
  |none=>exact .inl ⟨a,rfl,rfl,rfl⟩
  |some j=>exact .inr ⟨j,a,rfl,λd f b=>by simp[dP] at b⟩
 exact .inr ⟨_,a,rfl,λd f b=>by rw[rT];exact Dx l m c d f b⟩
theorem SX(h:p:=by simpa[d9] using hj):p:=h
theorem Do{h:World}{k}:∀(g:List Ltr) (a:Nat),(∀d b,g[d]? =some b->oL h k (a+d*3) b)->∃f:List LV,f.map LV.l=g/\(∀b∈f,nB h b)/\∀j c,(d9 f)[j]? =some c->h.cell? ⟨k,a+j,none⟩=some c
 |[],a,_=>⟨[],rfl,Q1,by simp[d9]⟩
 |r::g,a,m=>by
  obtain⟨f,n,o,p⟩:=Do g (a+3) (λd b hi=>by
   have:=m (d+1) b ST
   rw[show a+(d+1)*3=a+3+d*3 by omega] at this
   exact this)
  obtain⟨q,s,i,t,u⟩:=m 0 r rfl
  refine⟨⟨r,i⟩::f,by rw[map_cons,n],?_,?_⟩
  .intro b hx
   rcases mem_cons.1 hx with rfl|hx
   .exact u
   exact o b hx
  intro j c hj
  match j,hj with
  |0,hj=>
   obtain rfl:Value.bool r.neg=c:=SX
   exact q
  |1,hj=>
   obtain rfl:Value.int .i64 r.atom.pred=c:=SX
   exact s
  |2,hj=>
   obtain rfl:i=c:=SX
   exact t
  |j+3,hj=>
   have:=p j c SX
   rw[show a+(j+3)=a+3+j by omega]
   exact this
theorem Mk{g:World}{k f}(o:dC g k f):∃a:List LV,a.map LV.l=f/\(∀s∈a,nB g s)/\eE g k a (d9 a):=by
 obtain⟨m,b,rfl,v,d⟩:=o;rcases d with rfl|⟨t,r,rfl,u,d⟩
 .refine⟨[],rfl,Q1,?_⟩;cases m with
  |none=>exact .inl ⟨b,rfl,rfl,rfl⟩
  |some n=>exact .inr ⟨n,b,rfl,λi j c=>by simp[d9] at c⟩
 obtain⟨a,h,p,q⟩:=Do f r d;refine⟨a,h,p,.inr ⟨_,b,?_,λi j c=>by rw[rT];exact q i j c⟩⟩;rw[<-h,length_map]
theorem DB{g:World}{l f}(o:ck g l f):∃a:List RV,a.map RV.r=f/\(∀q∈a,hZ g q)/\eE g l a (ci a):=by
 obtain⟨a,m,b,rfl,h,p,c⟩:=Mp o;have i:a.length=f.length:=by rw[<-h,length_map]
 rcases c with rfl|⟨s,u,rfl,t,c⟩
 .obtain rfl:a=[]:=List.eq_nil_of_length_eq_zero i;refine⟨[],rfl,Q1,?_⟩;cases m with
  |none=>exact .inl ⟨b,rfl,rfl,rfl⟩
  |some n=>exact .inr ⟨n,b,rfl,λj k d=>by simp[ci] at d⟩
 exact⟨a,h,p,.inr ⟨_,b,by rw[i],λj k d=>by rw[rT];exact c j k d⟩⟩
theorem rZ{c:World}{m i e j n f}(o:c.ownsRow m e i j n f)(x:f.length=n*i):(j=.slice none 0 0/\n=0)\/∃a d,j=.slice (some ⟨a,0,none⟩) n d/\m<=a/\a<c.heap.size/\(∀k,c.frozen? ⟨a,k,none⟩=false)/\∀b l,f[b]? =some l->c.cell? ⟨a,0+b,none⟩=some l:=by
 obtain⟨v,p⟩:=o;rcases p with⟨rfl,s⟩|⟨a,d,u,rfl,q,g,w,y,z,t⟩
 .exact .inl ⟨rfl,s⟩
 refine .inr ⟨a,d,rfl,q,(Array.getElem?_eq_some_iff.1 g).1,λk=>by simp[World.frozen?,g],?_⟩;intro b l h
 have r:b<n*i:=by
  have:=(List.getElem?_eq_some_iff.1 h).1;omega
 rw[<-t,List.getElem?_take_of_lt r] at h;simp[World.cell?,g];simpa using h
theorem aaa(h:p:=by
 obtain rfl:=List.eq_nil_of_length_eq_zero hn
 exact⟨none,0,rfl,Q1,.inl rfl⟩):p:=h
theorem DE{c:World}{d:Nat}{e:TypeId}{b:Value}{l:List Tm}(h:c.ownsRow d e 2 b l (dW l))(k:l.length<=140737488355328):cr c b l:=by
 rcases rZ h (xO l) with⟨rfl,hn⟩|⟨g,f,rfl,_,i,_,a⟩
 .exact aaa
 refine⟨_,f,rfl,k,.inr ⟨g,0,rfl,i,λm p j=>?_⟩⟩;obtain⟨n,o⟩:=Dj l m p j;exact⟨a _ _ n,a _ _ o⟩
theorem uN{c:World}{d:Nat}{e:TypeId}{b:Value}{l:List Prd}(h:c.ownsRow d e 3 b l (dP l))(k:l.length<=140737488355328):bR c b l:=by
 rcases rZ h (o_ l) with⟨rfl,hn⟩|⟨g,f,rfl,_,i,_,a⟩
 .exact aaa
 refine⟨_,f,rfl,k,.inr ⟨g,0,rfl,i,λm q j=>?_⟩⟩;obtain⟨n,o,p⟩:=Dh l m q j;exact⟨a _ _ n,a _ _ o,a _ _ p⟩
theorem Dn{b:World}{i:Nat}{e:TypeId}{f:Value}{l:List LV}(m:b.ownsRow i e 3 f l (d9 l))(hl:l.length<=140737488355328)(o:∀g∈l,nB b g):dC b f (l.map LV.l):=by
 rcases rZ m (uJ l) with⟨rfl,hn⟩|⟨k,j,rfl,_,n,_,a⟩
 .exact aaa
 refine⟨_,j,Rj,Ri,.inr ⟨k,0,rfl,n,λp g c=>?_⟩⟩;rw[List.getElem?_map] at c;obtain⟨h,d,rfl⟩:=Option.map_eq_some_iff.1 c;obtain⟨q,r,s⟩:=rW l p h d;exact⟨a _ _ q,a _ _ r,h.av,a _ _ s,o _ (List.mem_of_getElem? d)⟩
theorem r8{d:World}{f a b n i k e j v}(o:d.ownsRow f e i (.slice (some ⟨a,0,none⟩) n b) n j):(d.setCell ⟨a,k,none⟩ v).ownsRow f e i (.slice (some ⟨a,0,none⟩) n b) n (j.set k v):=by
 obtain⟨s,c⟩:=o;rcases c with⟨c,_⟩|⟨m,l,g,w,p,r,q,t,u,h⟩
 .cases c
 obtain⟨rfl,rfl⟩:a=m/\b=l:=by simpa using w
 refine⟨by simpa using s,.inr ⟨a,b,g.setIfInBounds k v,rfl,p,heap_setCell_same d a k _ _ _ r,q,t,by simpa using u,?_⟩⟩;obtain⟨x⟩:=g;simp only[List.setIfInBounds_toArray] at h⊢;rw[List.take_set,h]
theorem gC{b i:World}{c g n e h j}(m:b.ownsRow c e g h n j)(r:Below b b i):i.ownsRow c e g h n j:=by
 obtain⟨o,a⟩:=m;refine⟨o,?_⟩;rcases a with a|⟨d,k,l,a,p,f,q⟩
 .exact .inl a
 exact .inr ⟨d,k,l,a,p,(r.block d (Array.getElem?_eq_some_iff.1 f).1).trans f,q⟩
def lg(n:Nat)(w w':World):Prop:=w.heap.size<=w'.heap.size/\∀b,n<=b->b<w.heap.size->w'.heap[b]? =w.heap[b]?
theorem lg.e(n)(a:World):lg n a a:=⟨Nat.le_refl _,λ_ _ _=>rfl⟩
theorem lg.c{n}{g h i:World}(a:lg n g h)(k:lg n h i):lg n g i:=⟨Nat.le_trans a.1 k.1,λb d f=>(k.2 b d (Nat.lt_of_lt_of_le f a.1)).trans (a.2 b d f)⟩
theorem lg.d{n b}{c f:World}(a:lg n c f)(j:n<=b):lg b c f:=⟨a.1,λg h i=>a.2 g (Nat.le_trans j h) i⟩
theorem lg.b{n}{a d:World}(c:Below a a d):lg n a d:=⟨c.size,λf _ g=>c.block f g⟩
theorem h_{c:World}{b k f a}(d:b≠a):(c.setCell ⟨b,k,none⟩ f).heap[a]? =c.heap[a]? :=by
 show(c.heap.modify b _)[a]? =_;rw[Array.getElem?_modify,if_neg d]
theorem lg.a{n b k}{c:World}{d}(g:b<n):lg n c (c.setCell ⟨b,k,none⟩ d):=⟨by rw[cF];exact Nat.le_refl _,λf h _=>h_ Q0⟩
def fK(n:Nat)(Φ:World->Prop)(w:World):Prop:=∀w',lg n w w'->Φ w'
theorem fK.c{n}{b:World->Prop}{a:World}(d:fK n b a):b a:=d a (lg.e n a)
theorem fK.a{n b}{h:World->Prop}{f g:World}(i:fK n h f)(k:lg b f g)(j:b<=n):fK n h g:=λm l=>i m ((k.d j).c l)
theorem fK.b{n a}{f:World->Prop}{c:World}(g:fK n f c)(h:a<=n):fK a f c:=λj i=>g j (i.d h)
theorem ql{i j:World}{b g n f e h l}(p:i.ownsRow b e g h n l)(k:lg f i j)(t:f<=b):j.ownsRow b e g h n l:=by
 obtain⟨q,a⟩:=p;refine⟨q,?_⟩;rcases a with a|⟨c,m,o,a,r,d,s⟩
 .exact .inl a
 exact .inr ⟨c,m,o,a,r,(k.2 c Q0 (Array.getElem?_eq_some_iff.1 d).1).trans d,s⟩
theorem li{g:World}{c b d n e f h}(l:g.ownsRow c e d f n h)(r:b<=c):g.ownsRow b e d f n h:=by
 obtain⟨m,a⟩:=l;refine⟨m,?_⟩;rcases a with a|⟨k,i,j,a,q,o,p⟩
 .exact .inl a
 exact .inr ⟨k,i,j,a,Q0,o,p⟩
theorem Mi{c:World}{a:Nat}{e:TypeId}{b:Value}{l:List Tm}(d:c.ownsRow a e 2 b l (dW l))(f:l.length<=140737488355328):fK a (λh=>cr h b l) c:=λ_ g=>DE (ql d g (Nat.le_refl _)) f
theorem Mh{c:World}{b:Nat}{e:TypeId}{f:Value}{l:List LV}(g:c.ownsRow b e 3 f l (d9 l))(h:l.length<=140737488355328)(j:∀a∈l,fK b (λk=>nB k a) c):fK b (λa=>dC a f (l.map LV.l)) c:=λ_ d=>Dn (ql g d (Nat.le_refl _)) h λa i=>j a i _ d
theorem mR{f:World}{b c n g k e d u h}(i:f.ownsRow b e c d n h)(j:g<b):(f.setCell ⟨g,k,none⟩ u).ownsRow b e c d n h:=ql i (lg.a j) (Nat.le_refl _)
theorem rY:(prog.info? 100).map (λa=>(a.zero,a.size,a.bytes))=some (some (.agg #[.bool false,.int .i64 0]),2,16):=by kernel_rfl
theorem xP:(prog.info? 103).map (λa=>(a.zero,a.size,a.bytes))=some (some (.agg #[.bool false,.int .i64 0,.slice none 0 0]),3,40):=by kernel_rfl
theorem pf:(prog.info? 51).map (λa=>(a.zero,a.size,a.bytes))=some (some (.agg #[.string ByteArray.empty,.int .i64 0,.int .i64 0]),3,32):=by kernel_rfl
