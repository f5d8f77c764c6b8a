import Derived.Laws.StructEq
import Derived.Test.YtlfccloaoopadagGreatDoorG28
import Derived.Test.YtlfccloaoopadagGreatDoorG46
open Go.Proofs.Tryz
set_option maxRecDepth 100000
set_option maxHeartbeats 0
open List (length_drop length_map length_take mem_of_mem_drop mem_of_mem_take)
open Nat (le_refl le_succ le_succ_of_le zero_add)
open Go.Value.slice (inj injEq)
namespace Go.Proofs.YtlfccloaoopadagGreatDoor
open Go.ChangeShapes Go.WideShapes Go.ChangeAt Go.RowKit
variable{p:Prop}
deriving instance DecidableEq for Prd
def eu(ps:List Prd)(rs:List Rul)(n:Int):Int:=
 if bP ps rs≠0 then bP ps rs else if n<0\/(rs.length:Int)<=n then 7 else 0
def d7(rs:List Rul)(n:Nat):List Rul:=rs.take n++rs.drop (n+1)
def fN(ps:List Prd)(rs:List Rul)(n:Int):List Prd:=if eu ps rs n=0 then ps else[]
def fg(ps:List Prd)(rs:List Rul)(n:Int):List Rul:=if eu ps rs n=0 then d7 rs n.toNat else[]
theorem De{b c}(a:cf b c=0)(g:∀h∈b,h.arity<=2):c.args.length<=500:=by
 unfold cf at a;split at a
 .rename_i h1;split at a
  .rename_i h2;obtain⟨f,d,e⟩:=fd.1 h1;have i:=g b[f] (List.getElem_mem d);have j:dN b c.pred=b[f].arity:=by rw[e];simp[dN,d]
   omega
  cases a
 cases a
theorem xR{c b}(a:cx c b=0):cf c b.head=0/\(∀l∈b.body,cf c l.atom=0)/\b.body.length<=3:=by
 rw[cx] at a;split at a
 .contradiction
 rename_i h1;split at a
 .contradiction
 rename_i h2;split at a
 .contradiction
 rename_i h3;exact⟨Classical.not_not.1 h1,tW (Classical.not_not.1 h3),Q0⟩
structure bD (ps:List Prd) (rs:List Rul):Prop where
 preds:ps.length<=5
 rules:rs.length<=8
 head:∀r∈rs,r.head.args.length<=500
 body:∀r∈rs,r.body.length<=500
 args:∀r∈rs,∀l∈r.body,l.atom.args.length<=500
theorem r9{g j}(k:bP g j=0):bD g j:=by
 have a:=(gO k).1;have h:=gN a;rw[ej] at a;split at a
 .contradiction
 split at a
 .contradiction
 split at a
 .contradiction
 split at a
 .contradiction
 rename_i ha;split at a
 .contradiction
 have f:=pV a
 have i:∀d∈g,d.arity<=2:=λd m=>by
  have:¬(!bQ d.arity 0 2)=true:=λe=>ha (List.any_eq_true.2 ⟨d,m,e⟩);simp[bQ] at this;exact this.2
 exact⟨h.1,h.2.1,λc b=>De (xR (f c b)).1 i,λc b=>by have:=(xR (f c b)).2.2;omega,λc b n l=>De ((xR (f c b)).2.1 n l) i⟩
def nC(base:Nat)(w:World)(v:Value)(ps:List Prd)(rs:List Rul):Prop:=
 ∃pa pc ra rc us,v=.agg #[.slice pa ps pc,.slice ra rs rc]/\w.ownsRow base 51 3 (.slice pa ps pc) ps (dP ps)/\w.ownsRow base 58 5 (.slice ra rs rc) rs (ci us)/\us.map RV.r=rs/\∀x∈us,fK base (λy=>hZ y x) w
theorem Mn{o}{j:World}{n b a}(d:nC o j n b a)(v:b.length<=500)(w:a.length<=500):∃f g h i,n=.agg #[.slice f b g,.slice h a i]/\bR j (.slice f b g) b/\ck j (.slice h a i) a:=by
 obtain⟨f,g,h,i,m,rfl,r,s,k,q⟩:=d;have p:m.length=a.length:=by rw[<-k,length_map]
 refine⟨f,g,h,i,rfl,uN r Q0,?_⟩;have d:=uO (l:=m) (by rw[p];exact s) Q0 λu t=>(q u t).c;rw[k] at d;exact d
theorem xQ(a)(b:World):nC a b (.agg #[.slice none 0 0,.slice none 0 0]) [] []:=⟨none,0,none,0,[],rfl,⟨rfl,.inl ⟨rfl,rfl⟩⟩,⟨rfl,.inl ⟨rfl,rfl⟩⟩,rfl,Q1⟩
theorem Dt{d c}{i:World}{h f g}(j:nC d i h f g)(a:c<=d):nC c i h f g:=by
 obtain⟨p,q,r,s,t,rfl,m,n,k,l⟩:=j;exact⟨p,q,r,s,t,rfl,li m a,li n a,k,λu o=>(l u o).b a⟩
theorem uL{b d k}{i:World}{h v f g}(j:nC b i h f g)(c:d<b):nC b (i.setCell ⟨d,k,none⟩ v) h f g:=by
 obtain⟨r,s,t,u,w,rfl,o,p,l,m⟩:=j;exact⟨r,s,t,u,w,rfl,mR o c,mR p c,l,λx q=>(m x q).a (lg.a (n:=b) c) (le_refl _)⟩
def kM(v:Value):Prop:=∃a n c,v=.slice a n c/\n<=c
theorem rV{h:World}{b e g n a i}(d:h.ownsRow b e g a n i):kM a:=by
 rcases d.2 with⟨rfl,l⟩|⟨k,c,j,rfl,_,_,f,_⟩
 .exact⟨none,0,0,rfl,le_refl _⟩
 exact⟨_,n,c,rfl,f⟩
theorem oq(a:List RV)(k:Nat):(a.take k++a.drop (k+1)).map RV.r=d7 (a.map RV.r) k:=by
 rw[d7,List.map_append,List.map_take,List.map_drop]
theorem Dw{g:World}{a n b d}(f:d=[]):eE g (.slice (some a) n b) n (ci d):=.inr ⟨a,b,rfl,λh i c=>by rw[f] at c;simp[ci] at c⟩
theorem ot{a:List RV}{k:Nat}{b:RV}(h:b∈a.take k++a.drop (k+1)):b∈a:=by
 rcases List.mem_append.1 h with h|h
 .exact mem_of_mem_take h
 exact mem_of_mem_drop h
theorem Xa(h:p:=by rw[<-hW0];exact(bH _ _).alloc (by simp) _):p:=h
theorem Xb(h:p:=by simp[results,results84,go_sem,e0,e1]):p:=h
theorem Xc(h:p:=by rw[HE.out]):p:=h
theorem Xd(h:p:=by rw[<-hlen];rw[<-hlen] at hpi;exact hpi.a k1):p:=h
theorem Xe(h:p:=by have:=hb1.size;omega):p:=h
theorem Xf(h:p:=by rw[IntKind.wrap_i64];have:=r9 hpe|>.rules;omega):p:=h
theorem Xg(h:p:=by refine Below.trans ?_ (hb5.mono ?_);(repeat(first|with_reducible exact Below.refl _ _|(with_reducible refine Below.drew ?_)|(with_reducible refine Below.alloc ?_ (by simp) _)));(simp[World.drew])):p:=h
theorem Xh(h:p:=by have:=hb5.size;simpa[World.drew] using this):p:=h
theorem Xi(h:p:=by simp[results,results84,go_sem,z0,z1]):p:=h
theorem Xj(h:p:=by simp[World.drew]):p:=h
theorem ae5(h:p:=by
 have hkw:Below w w w5:=bt_ k1 hk
 go_wp2_with fail
 have hul:us.length=(d7 rs k).length:=by
  have h:=congrArg List.length hmm
  rw[oq,HVS.out] at h
  simpa using h
 refine bodyPost_ret (v:=.tuple #[.agg #[.slice qa ps.length qc,.slice ta us.length tc],.int .i64 0]) Xi rfl ⟨_,Xc,?_,(hkw.setCell (p:=⟨w.heap.size+1,0,none⟩) (show w.heap.size<=w.heap.size+1 by omega) _).setCell (p:=⟨w.heap.size+1,1,none⟩) (show w.heap.size<=w.heap.size+1 by omega) _⟩
 rw[fN,fg,HE.out,if_pos rfl,if_pos rfl,Int.toNat_natCast]
 have ho:nC W1 w5 (.agg #[.slice qa ps.length qc,.slice ta us.length tc]) ps (d7 rs k):=by
  refine⟨qa,qc,ta,tc,us,by rw[hul],li ho1 Xj,?_,by rw[hmm,oq,HVS.out],λx hx=>(hok5 x hx).b Xj⟩
  rw[<-hul]
  exact li ho2 Xj
 exact Dt (uL (uL ho Xe) Xe) k1.size):p:=h
theorem Zl(h:p:=by
 go_wp2_with fail
 refine bodyPost_ret (v:=.tuple #[.agg #[.slice none 0 0,.slice none 0 0],.int .i64 7]) Xb rfl ⟨_,Xc,?_,(k1.setCell (p:=⟨w.heap.size+1,0,none⟩) (show w.heap.size<=w.heap.size+1 by omega) _).setCell (p:=⟨w.heap.size+1,1,none⟩) (show w.heap.size<=w.heap.size+1 by omega) _⟩
 rw[fN,fg,HE.out,if_neg Q0,if_neg Q0]
 exact xQ _ _):p:=h
theorem aag(h:p:=by
 obtain⟨a,c,h,_,hx⟩:=HR w (Below.refl _ _)
 rcases hx with hx|⟨b,o,rfl,_⟩
 .rw[hx] at hkl;simp at hkl
 exact⟨b,o,by simpa using(inj h).1⟩):p:=h
theorem aap(h:p:=by
 refine⟨qa,qc,ta,tc,us,by rw[hul],li ho1 Xj,?_,by rw[hmm,oq,HVS.out],λx hx=>(hok5 x hx).b Xj⟩
 rw[<-hul]
 exact li ho2 Xj):p:=h
theorem afk(h:p:=by
 rw[World.size_alloc] at h
 exact h):p:=h
theorem abc(h:p:=by
 rw[<-hW0]
 exact((bH _ _).block w.heap.size Q1).trans (heap_alloc_new w _)):p:=h
theorem ad5(h:p:=by
 have h:=congrArg List.length hmm
 rw[oq,HVS.out] at h
 simpa using h):p:=h
theorem L_(w:World)(R F ps rs n)(aC: -9223372036854775808<=n/\n<=9223372036854775807)(N:bR w R ps)(O:ck w F rs)(aq:dU ps)(aj:kM F):Calls prog 84 #[.agg #[R,F],.int .i64 n] w λe ac=>∃v,e=.returned (.tuple #[v,.int .i64 (eu ps rs n)])/\nC w ac v (fN ps rs n) (fg ps rs n)/\Below w w ac:=by
 have ae:=hid_ λx (hx:Below w w x)=>n8 x R F ps rs (bR.a hx N) (ck.a hx O) aq;have S:=lp_ N;have HR:=lr_ O;obtain⟨q,s,rfl,_⟩:=N;obtain⟨B,g,rfl,_⟩:=O
 have ak:rs.length<=g:=by
  obtain⟨a,aH,c,h,ax⟩:=aj;simp only[injEq] at h;omega
 obtain⟨y,hW0⟩:=ex_ ((w.alloc (.cells #[.slice q ps.length s,.slice B rs.length g] 30)).alloc (.cells #[.slice none 0 0,.slice none 0 0] 30));have U:Below w w y:=Xa;have aG:y.heap.size=w.heap.size+2:=by rw[<-hW0];simp
 have M:jw y w (.slice q ps.length s) (.slice B rs.length g):=by
  exact abc
 have X:jw y (w.heap.size+1) (.slice none 0 0) (.slice none 0 0):=by
  rw[<-hW0];have h:=heap_alloc_new (w.alloc (.cells #[.slice q ps.length s,.slice B rs.length g] 30)) (.cells #[.slice none 0 0,.slice none 0 0] 30);exact afk
 have ad:Hid (∀x,Below y y x->jw x w.heap.size (.slice q ps.length s) (.slice B rs.length g)/\jw x (w.heap.size+1) (.slice none 0 0) (.slice none 0 0)):=λx hx=>⟨(hx.block _ Q0).trans M,(hx.block _ Q0).trans X⟩;obtain⟨ah,ai,_,_,_⟩:=mQ M;clear M X;go_enter func84,ntmps84;go_wp2_with fail;refine mo_ (ae _ U) λW1 hb1=>?_;have k1:Below w w W1:=bt_ U hb1;obtain⟨av,aw⟩:=ad W1 hb1;obtain⟨af,ag,_,_,_⟩:=mQ av;obtain⟨e0,e1,V,W,_⟩:=mQ aw;clear hW0 ah ai;by_cases hpe:bP ps rs=0
 .rw[hpe];by_cases Y:n<0
  .have HE:Hid (eu ps rs n=7):=by show _=_;simp[eu,hpe,Y]
   exact Zl
  by_cases ar:n>=(rs.length:Int)
  .have HE:Hid (eu ps rs n=7):=by show _=_;simp[eu,hpe,ar]
   exact Zl
  have HE:Hid (eu ps rs n=0):=by show _=_;simp[eu,hpe,Y];omega
  obtain⟨k,rfl⟩:∃k:Nat,n=(k:Int):=⟨n.toNat,Q0⟩;have hkl:k<rs.length:=Q0;obtain⟨l,hvs,Z,hpi⟩:=DB (HR w (Below.refl _ _));have hlen:l.length=rs.length:=WQ
  obtain⟨i,j,rfl⟩:∃i j,B=some ⟨i,j,none⟩:=by
   exact aag
  have C:Hid (∀d∈l,hZ w d):=Z;have z:Hid (l.length=rs.length):=hlen;have m:Hid (bD ps rs):=r9 hpe;have t:Hid (∀d∈l,d.r∈rs):=λd f=>by rw[<-hvs];exact List.mem_map.2 ⟨d,f,rfl⟩
  have HVS:Hid (l.map RV.r=rs):=hvs;have A:Hid (eE W1 (.slice (some ⟨i,j,none⟩) rs.length g) rs.length (ci l)):=Xd;have u:Hid (∀x,Below W1 W1 x->(λx:World=>x.cell? w=some (.slice q ps.length s)/\x.cell? ⟨w,1,none⟩=some (.slice (some ⟨i,j,none⟩) rs.length g)) x):=λx hx=>⟨(bF hx Xe).trans af,(bF hx Xe).trans ag⟩;have E:Hid (∀x,Below W1 W1 x->∀ab v,(λx:World=>x.cell? w=some (.slice q ps.length s)/\x.cell? ⟨w,1,none⟩=some (.slice (some ⟨i,j,none⟩) rs.length g)) ((x.setCell ⟨w.heap.size+1,0,none⟩ ab).setCell ⟨w.heap.size+1,1,none⟩ v)):=λx hx ab v=>⟨(cb Q0).trans ((cb Q0).trans (u x hx).1),(cb Q0).trans ((cb Q0).trans (u x hx).2)⟩;have T:=hid_ λx (hx:Below W1 W1 x)=>an_ ((bF hx Xe).trans e0) (an_ ((bF hx Xe).trans e1) (an_ (((fR hx).2 _ _ Xe).trans V) (((fR hx).2 _ _ Xe).trans W)));have al:(k:Int)<(rs.length:Int):=Q0;have am:(k:Int)<=(g:Int):=Q0;have aA:¬((k:Int)+1<0):=Q0;have aB:(0:Int)<=(k:Int)+1:=Q0;have an:(k:Int)+1<=(rs.length:Int):=Q0;have ao:(rs.length:Int)<=(g:Int):=Q0;have ay:IntKind.i64.wrap ((k:Int)+1)=(k:Int)+1:=Xf;have ap:k+1<=rs.length:=Q0;clear hvs Z hpi hlen e0 e1 V W;by_cases P:g=k+1
  .have Q:rs.length=k+1:=Q0;have az:(k:Int)<=(k:Int)+1:=Q0;have I:=u.out;have J:=E.out;have H:=A.out;rw[P,Q] at I J H;have u:Hid _:=I;have E:Hid _:=J;have A:Hid _:=H;have D:Hid (rs.length=k+1):=Q;clear I J H al am an ao ap ak;go_wp2_with fail;clear P Q;have G:=hid_ λx (hx:Below W1 W1 x)(K:x.cell? W1=some (.slice (some ⟨i,j,none⟩) k (k+1)))(L:x.cell? ⟨W1,1,none⟩=some (.slice (some ⟨i,j,none⟩) 0 0))=>Dz x _ ps W1.heap.size _ _ _ _ k 0 (l.take k) (l.drop (k+1)) (by rw[length_take,z.out,D.out];omega) (by rw[length_drop,z.out,D.out];omega) (S x (k1.trans (hx.mono k1.size))) (by have:=m.out.preds;omega) K L ((uM A.out).a hx) ((Dw (show l.drop (k+1)=[] by apply List.drop_eq_nil_of_le;rw[z.out,D.out];exact le_refl _)).a hx) (λd f=>hZ.a (k1.trans (hx.mono k1.size)) (C d (mem_of_mem_take f))) (λd f=>hZ.a (k1.trans (hx.mono k1.size)) (C d (mem_of_mem_drop f))) (by have:=m.out.rules;have:=D.out;omega) (λd f=>m.out.head _ (t d (ot f))) (λd f=>m.out.body _ (t d (ot f))) (λd f=>m.out.args _ (t d (ot f)));go_region_held3 (λx:World=>x.cell? w=some (.slice q ps.length s)/\x.cell? ⟨w,1,none⟩=some (.slice (some ⟨i,j,none⟩) (k+1) (k+1))) (first|(refine u _ ?_;(first|exact hk|((repeat(first|with_reducible exact Below.refl _ _|(with_reducible refine Below.drew ?_)|(with_reducible refine Below.alloc ?_ Q1 _)));done)))|exact E _ hk _ _) (first|(go_at_call 133;refine Calls.mono (G _ ?g0 ?g1 ?g2) ?_;(case g0=>(repeat(first|with_reducible exact Below.refl _ _|(with_reducible refine Below.drew ?_)|(with_reducible refine Below.alloc ?_ Q1 _))));(case g1=>simp[go_sem]);(case g2=>simp[go_sem]);rintro e w5 ⟨qa,qc,ta,tc,us,rfl,ho1,ho2,hmm,hok5,hb5⟩;have au:W1.heap.size+1<=w5.heap.size:=Xh;have hk:Below W1 W1 w5:=Xg;obtain⟨z0,z1,z0f,z1f⟩:=T _ hk));exact ae5
  have aD:¬(k+1=g):=λe=>P e.symm;have aE:¬((g:Int)=(k:Int)+1):=Q0;have aF:¬((k:Int)+1=(g:Int)):=Q0;go_wp2_with fail;have G:=hid_ λx (hx:Below W1 W1 x)(K:x.cell? W1=some (.slice (some ⟨i,j,none⟩) k g))(L:x.cell? ⟨W1,1,none⟩=some (.slice (some ⟨i,j+(k+1)*5,none⟩) (rs.length-(k+1)) (g-(k+1))))=>Dz x _ ps W1.heap.size _ _ _ _ k (rs.length-(k+1)) (l.take k) (l.drop (k+1)) (by rw[length_take,z.out];omega) (by rw[length_drop,z.out]) (S x (k1.trans (hx.mono k1.size))) (by have:=m.out.preds;omega) K L ((uM A.out).a hx) ((Dv A.out).a hx) (λd f=>hZ.a (k1.trans (hx.mono k1.size)) (C d (mem_of_mem_take f))) (λd f=>hZ.a (k1.trans (hx.mono k1.size)) (C d (mem_of_mem_drop f))) (by have:=m.out.rules;omega) (λd f=>m.out.head _ (t d (ot f))) (λd f=>m.out.body _ (t d (ot f))) (λd f=>m.out.args _ (t d (ot f)));go_region_held3 (λx:World=>x.cell? w=some (.slice q ps.length s)/\x.cell? ⟨w,1,none⟩=some (.slice (some ⟨i,j,none⟩) rs.length g)) (first|(refine u _ ?_;(first|exact hk|((repeat(first|with_reducible exact Below.refl _ _|(with_reducible refine Below.drew ?_)|(with_reducible refine Below.alloc ?_ Q1 _)));done)))|exact E _ hk _ _) (first|(go_at_call 133;refine Calls.mono (G _ ?g0 ?g1 ?g2) ?_;(case g0=>(repeat(first|with_reducible exact Below.refl _ _|(with_reducible refine Below.drew ?_)|(with_reducible refine Below.alloc ?_ Q1 _))));(case g1=>simp[go_sem]);(case g2=>simp[go_sem]);rintro e w5 ⟨qa,qc,ta,tc,us,rfl,ho1,ho2,hmm,hok5,hb5⟩;have au:W1.heap.size+1<=w5.heap.size:=Xh;have hk:Below W1 W1 w5:=Xg;obtain⟨z0,z1,z0f,z1f⟩:=T _ hk));exact ae5
 have aa:bP ps rs≠0:=hpe;have HE:Hid (eu ps rs n=bP ps rs):=by show _=_;simp[eu,hpe]
 go_wp2_with fail;refine bodyPost_ret (v:=.tuple #[.agg #[.slice none 0 0,.slice none 0 0],.int .i64 (bP ps rs)]) Xb rfl ⟨_,Xc,?_,(k1.setCell (p:=⟨w.heap.size+1,0,none⟩) (show w.heap.size<=w.heap.size+1 by omega) _).setCell (p:=⟨w.heap.size+1,1,none⟩) (show w.heap.size<=w.heap.size+1 by omega) _⟩;rw[fN,fg,HE.out,if_neg aa,if_neg aa];exact xQ _ _
section
variable {P:Program}
theorem lO{c:World}{G:Array Oper}{o:Oper}{g:Act}{y:Act->World->Prop}{J:Exit->Act->World->Prop}{I:Prop}(T:o.guard=none)(s v:Operand)(h:TypeId)(C:o.op=.call {callee:=.builtin .append,args:=#[s,v],argTypes:=#[h,h]})(e:TypeId){x:Value}{f q:Nat}(E:P.underlying h=some (.slice e))(U:(P.info? e).map (λj=>(j.zero,j.size,j.bytes))=some (some x,f,q))(ac:x.cells.size=f)(Y:0<f)(Q:q<=1000)(p:Nat)(t:Value)(n:Nat)(w:List Value)(D:g.eval s=t)(r:c.ownsRow p e f t n w)(H:Value)(F:g.eval v=H)(d:Nat)(l:List Value)(W:eE c H d l)(V:l.length=d*f)(L:∀ad∈l,ad.oneCell'=true)(ai:n+d<=1000)(O:p<=c.heap.size)(m:Nat)(N:n+d=m)(i:∀a b k,k.ownsRow p e f (.slice a m b) m (w++l)->c.grownBy k t.ownBlock->y (g.put o.dst (.slice a m b)) k):if Region.wanted o (yielded G g.tmps)=true then Oper.wp P o g c y J else I:=by
 subst N;have aa:Region.wanted o (yielded G g.tmps)=true:=by simp[Region.wanted,T]
 rw[if_pos aa];obtain⟨j,B,ab,Z,R⟩:=info_parts U;rcases W with⟨u,rfl,rfl,rfl⟩|⟨K,u,rfl,A⟩
 .obtain⟨a,b,rfl⟩:=qo r
  have S:n<=b:=by
   rcases r.2 with⟨i,ah⟩|⟨ag,ae,af,i,_,_,A,_⟩
   .omega
   simp only[injEq] at i;omega
  have X:(Builtin.append_ #[h,h] o.type #[.slice a n b,.slice none 0 u]).run P c=.ok (.slice a n b) c:=by
   cases a<;>simp[Builtin.append_,run_underlying E,sizeOf,typeInfo,B,Builtin.lenOf,Builtin.firstCells,S,storeCells]
  unfold Oper.wp execOp;simp only[C,resolve,invoke,builtin,Sem.run_bind,Sem.run_pure,Result.andThen_ok,List.map_toArray,List.map_cons,List.map_nil,D,F,X];exact i a b c (by rw[List.append_nil];exact r) ⟨rfl,rfl,rfl,le_refl _,λ_ _ _=>rfl⟩
 have aj:(n+d+(n+d)/4+192)*q<=2000*1000:=Nat.mul_le_mul Q0 Q;refine wp_append_own_wide c s v h C p e j x f q E B ab Z R ac Y t n w D r K d u l F V A L TZ Q0 O ?_;intro ak k z M _;obtain⟨a,b,rfl⟩:=qo z;exact i a b k z M
end
theorem eO{b:World}{a N sz:Nat}{e:TypeId}(c:b.heap[N]? =some (.cells #[] e (0,0)))(d:a<=N):b.ownsRow a e sz (.slice (some ⟨N,0,none⟩) 0 0) 0 []:=⟨Q1,.inr ⟨N,0,#[],rfl,d,c,le_refl _,Nat.zero_le _,Q1,Q1⟩⟩
theorem Du{h:World}{i p n b:Nat}{e c:TypeId}{g:Value}{q:List Value}{j:Array Value}{f:Nat×Nat}(a:h.ownsRow i e p g n q)(d:h.heap[b]? =some (.cells j c f))(m:e≠c):some b≠g.ownBlock:=by
 rcases a.2 with⟨rfl,_⟩|⟨k,r,s,rfl,_,o,_⟩
 .intro a;cases a
 intro a;have l:b=k:=Option.some.inj a;subst l;rw[o] at d;cases d
 exact m rfl
theorem ov{c k:World}{d m h y n x:Nat}{e f:TypeId}{i j:Value}{l A:List Value}(q:c.ownsRow d e h i n l)(r:c.ownsRow m f y j x A)(v:e≠f)(w:c.grownBy k j.ownBlock):k.ownsRow d e h i n l:=by
 obtain⟨s,a⟩:=q;refine⟨s,?_⟩;rcases a with a|⟨g,o,p,a,t,b,u⟩
 .exact .inl a
 exact .inr ⟨g,o,p,a,t,(w.block g (Array.getElem?_eq_some_iff.1 b).1 (Du r b (λz=>v z.symm))).trans b,u⟩
theorem lN{f b g:World}{c a p:Nat}{e:TypeId}{d:Value}{n:Nat}{q:List Value}(h:Below a f b)(l:b.ownsRow c e p d n q)(i:b.grownBy g d.ownBlock)(m:a<=b.heap.size)(k:a<=c):Below a f g:=
 h.grown i m (λo j=>Nat.le_trans k (l.lt o j).1)
theorem dx(a:World)(o:Obj):(a.alloc o).heap[a.heap.size]? =some o:=heap_alloc_new a o
theorem dk{b:World}{o:Obj}{a:Nat}{d:Obj}(c:b.heap[a]? =some d):(b.alloc o).heap[a]? =some d:=((bH b o).block a (Array.getElem?_eq_some_iff.1 c).1).trans c
theorem iM(a:World)(b o:Obj):((a.alloc b).alloc o).heap[a.heap.size+1]? =some o:=by
 have h:=dx (a.alloc b) o;exact afk
theorem qj(a:World)(b c o:Obj):(((a.alloc b).alloc c).alloc o).heap[a.heap.size+1+1]? =some o:=by
 have h:=iM (a.alloc b) c o;exact afk
theorem ou{d i:World}{j o n a:Nat}{e b:TypeId}{h:Value}{p:List Value}{g:Array Value}{f:Nat×Nat}(c:d.heap[a]? =some (.cells g b f))(k:d.ownsRow j e o h n p)(l:e≠b)(m:d.grownBy i h.ownBlock):i.heap[a]? =some (.cells g b f):=(m.block a (Array.getElem?_eq_some_iff.1 c).1 (Du k c l)).trans c
theorem fL{a c:World}(b:Below a a c)(o:Obj):Below a a (c.alloc o):=b.alloc b.size o
theorem fM{a b:World}{n:Nat}(c:Below n a b):Below n a b.drew:=c.drew
theorem ew{b:World}{a:Nat}{c:Option Obj}(d:b.heap[a]? =c):b.drew.heap[a]? =c:=d
theorem gn{a b:World}(c:Below a a b):a.heap.size<=b.heap.size:=c.size
theorem Xk(h:p:=by show _=_;rw[oo,length_take,HLEN.out];have:=HKL.out;rw[Nat.min_eq_left (by omega)]):p:=h
theorem Xl(h:p:=by show _<=_;have:=HRL8.out;have:=HKL.out;omega):p:=h
theorem Xm(h:p:=by ((try with_reducible refine ew ?_);(first|with_reducible exact dx _ _|with_reducible exact dk (dx _ _)|with_reducible exact iM _ _ _|with_reducible exact dk (iM _ _ _)|with_reducible exact dk (dk (dx _ _))|with_reducible exact qj _ _ _ _))):p:=h
theorem Xn(h:p:=by ((repeat(first|with_reducible exact Below.refl _ _|with_reducible exact b10|with_reducible exact b7|with_reducible exact b3|(with_reducible refine fM ?_)|(with_reducible refine fL ?_ _)));done)):p:=h
theorem Xo(h:p:=by first|exact Nat.le_refl _|exact Nat.le_succ _|exact Nat.le_succ_of_le (Nat.le_succ _)|exact b3.size|exact Nat.le_succ_of_le b3.size|exact b7.size):p:=h
theorem Xp(h:p:=by first|exact le_refl _|exact Nat.le_succ _|exact Nat.le_succ_of_le (Nat.le_succ _)|exact b3.size|exact Nat.le_succ_of_le b3.size|exact b7.size):p:=h
theorem Xq(h:p:=by first|exact le_refl _|exact le_succ _|exact Nat.le_succ_of_le (Nat.le_succ _)|exact b3.size|exact Nat.le_succ_of_le b3.size|exact b7.size):p:=h
theorem Xr(h:p:=by ((try with_reducible refine ew ?_);(first|with_reducible exact zR|with_reducible exact dk zR|with_reducible exact dk (dk zR)|with_reducible exact dx _ _|with_reducible exact dk (dx _ _)|with_reducible exact iM _ _ _|with_reducible exact dk (iM _ _ _)|with_reducible exact dk (dk (dx _ _))|with_reducible exact qj _ _ _ _))):p:=h
theorem Xs(h:p:=by first|exact le_refl _|exact le_succ _|exact le_succ_of_le (le_succ _)|exact b3.size|exact Nat.le_succ_of_le b3.size|exact b7.size):p:=h
theorem Xt(h:p:=by simp[results,results52,go_sem,z0,z1]):p:=h
theorem Xu(h:p:=by rw[<-length_map (f:=RV.r),oq,HVS.out,hlen]):p:=h
theorem Xv(h:p:=by rw[hm];have:=HRL8.out;have:=HKL.out;omega):p:=h
theorem Xw(h:p:=by rw[HE2.out];exact⟨none,0,0,rfl,le_refl _⟩):p:=h
theorem Xx(h:p:=by simp[results,results52,go_sem,e0,e1]):p:=h
theorem Ms(w:World)(aD ai j k)(n:Int)(bd: -9223372036854775808<=n/\n<=9223372036854775807)(ax:bR w aD j)(ay:ck w ai k)(a3:dU j)(aW:kM ai):Calls prog 52 #[.agg #[aD,ai],n] w λe aE=>∃y z L q,e=.returned (.tuple #[.agg #[.slice y (fN j k n).length z,.slice L (fg j k n).length q],.int .i64 (eu j k n)])/\bR aE (.slice y (fN j k n).length z) (fN j k n)/\ck aE (.slice L (fg j k n).length q) (fg j k n)/\kM (.slice L (fg j k n).length q)/\Below w w aE:=by
 have aR:=hid_ (λl hx=>tY l aD ai j k (bR.a hx ax) (ck.a hx ay) a3);have aQ:=lp_ ax;have HR:=lr_ ay;obtain⟨y,z,rfl,_⟩:=ax;obtain⟨L,q,rfl,_⟩:=ay
 have aX:k.length<=q:=by
  obtain⟨a,bi,c,h,a8⟩:=aW;simp only[injEq] at h;omega
 obtain⟨Z,hW0⟩:=ex_ ((w.alloc (.cells #[.slice y j z,.slice L k q] 30)).alloc (.cells #[.slice none 0 0,.slice none 0 0] 30));have aH:Below w w Z:=Xa;have bh:Z.heap.size=w.heap.size+2:=by rw[<-hW0];simp
 have au:jw Z w (.slice y j z) (.slice L k q):=by
  exact abc
 have aK:jw Z (w.heap.size+1) (.slice none 0 0) (.slice none 0 0):=by
  rw[<-hW0];have h:=heap_alloc_new (w.alloc (.cells #[.slice y j z,.slice L k q] 30)) (.cells #[.slice none 0 0,.slice none 0 0] 30);exact afk
 have aP:Hid (∀l,Below Z Z l->jw l w.heap.size (.slice y j z) (.slice L k q)/\jw l (w.heap.size+1) (.slice none 0 0) (.slice none 0 0)):=λl hx=>⟨(hx.block _ Q0).trans au,(hx.block _ Q0).trans aK⟩;obtain⟨aU,aV,_,_,_⟩:=mQ au;clear au aK;go_enter func52,ntmps52;go_wp2_with fail;refine mo_ (aR _ aH) λaG hb1=>?_;have k1:=bt_ aH hb1;obtain⟨a4,a5⟩:=aP aG hb1;obtain⟨aS,aT,_,_,_⟩:=mQ a4;obtain⟨e0,e1,aI,aJ,_⟩:=mQ a5;clear hW0 aU aV;by_cases hpe:bP j k=0
 .rw[hpe];have aO:=et n 0 ((k.length:Int)-1) aG;go_wp2_with fail;refine aO.mono ?_;rintro e i ⟨rfl,rfl⟩;clear aO;by_cases aL:0<=n/\n<=(k.length:Int)-1
  .have aB:bQ n 0 ((k.length:Int)-1)=true:=by simp[bQ,aL.1,aL.2]
   rw[aB];have D:Hid (eu j k n=0):=by show _=_;simp[eu,hpe];omega
   have I:Hid (fN j k n=j):=by show _=_;rw[fN,D.out,if_pos rfl]
   have HE2:Hid (fg j k n=d7 k n.toNat):=by show _=_;rw[fg,D.out,if_pos rfl]
   obtain⟨d,rfl⟩:∃d:Nat,n=(d:Int):=⟨n.toNat,Q0⟩;rw[Int.toNat_natCast] at HE2;have hkl:d<k.length:=Q0;obtain⟨m,hvs,aM,hpi⟩:=DB (HR w (Below.refl _ _));have hlen:m.length=k.length:=WQ
   obtain⟨t,u,rfl⟩:∃t u,L=some ⟨t,u,none⟩:=by
    exact aag
   have X:=hid_ aM;have HLEN:=hid_ hlen;have HKL:=hid_ hkl;have HRL8:=hid_ ((r9 hpe).rules);have af:=hid_ ((r9 hpe).preds);have HVS:=hid_ hvs;have ag:=hid_ (Dy (aQ i k1));have ac:Hid (eE i (.slice (some ⟨t,u,none⟩) k q) k (ci m)):=Xd;have Y:Hid (∀l,Below i i l->(λl:World=>l.cell? w=some (.slice y j z)/\l.cell? ⟨w,1,none⟩=some (.slice (some ⟨t,u,none⟩) k q)) l):=λl hx=>⟨(bF hx Xe).trans aS,(bF hx Xe).trans aT⟩;have ah:Hid (∀l,Below i i l->∀A aa,(λl:World=>l.cell? w=some (.slice y j z)/\l.cell? ⟨w,1,none⟩=some (.slice (some ⟨t,u,none⟩) k q)) ((l.setCell ⟨w.heap.size+1,0,none⟩ A).setCell ⟨w.heap.size+1,1,none⟩ aa)):=λl hx A aa=>⟨(cb Q0).trans ((cb Q0).trans (Y l hx).1),(cb Q0).trans ((cb Q0).trans (Y l hx).2)⟩;have aF:=hid_ λl (hx:Below i i l)=>an_ ((bF hx Xe).trans e0) (an_ ((bF hx Xe).trans e1) (an_ (((fR hx).2 _ _ Xe).trans aI) (((fR hx).2 _ _ Xe).trans aJ)));have aY:(d:Int)<(k.length:Int):=Q0;have aZ:(d:Int)<=(q:Int):=Q0;have bb:¬((d:Int)+1<0):=Q0;have bc:(0:Int)<=(d:Int)+1:=Q0;have a0:(d:Int)+1<=(k.length:Int):=Q0;have a1:(k.length:Int)<=(q:Int):=Q0;have a9:IntKind.i64.wrap ((d:Int)+1)=(d:Int)+1:=Xf;have a2:d+1<=k.length:=Q0;clear hvs aM hpi hlen e0 e1 aI aJ;by_cases az:q=d+1
   .have aA:k.length=d+1:=Q0;have ba:(d:Int)<=(d:Int)+1:=Q0;have aq:=Y.out;have ar:=ah.out;have an:=ac.out;rw[az,aA] at aq ar an;have Y:Hid _:=aq;have ah:Hid _:=ar;have ac:Hid _:=an;have ap:=hid_ aA;clear aq ar an aY aZ a0 a1 a2 aX hkl;go_wp2_with fail;clear az aA;have Q:Hid (eE i (.slice (some ⟨t,u,none⟩) d (d+1)) d (ci (m.take d))):=uM ac.out;have aj:Hid (eE i (.slice (some ⟨t,u,none⟩) 0 0) 0 (ci (m.drop (d+1)))):=(Dw (show m.drop (d+1)=[] by apply List.drop_eq_nil_of_le;rw[HLEN.out,ap.out];exact le_refl _));have M:Hid ((ci (m.take d)).length=d*5):=Xk;have ak:Hid ((ci (m.drop (d+1))).length=0*5):=by show _=_;rw[oo,length_drop,HLEN.out];rw[ap.out];omega
    have ab:Hid (0+j.length<=1000):=by show _<=_;have:=af.out;omega
    have O:Hid (0+d<=1000):=Xl;have al:Hid (d+0<=1000):=Xl;have P:Hid (∀A∈ci (m.take d),A.oneCell'=true):=pd λU S=>X U (mem_of_mem_take S);have am:Hid (∀A∈ci (m.drop (d+1)),A.oneCell'=true):=pd λU S=>X U (mem_of_mem_drop S)
    go_region_held3 (λl:World=>l.cell? w=some (.slice y j z)/\l.cell? ⟨w,1,none⟩=some (.slice (some ⟨t,u,none⟩) (d+1) (d+1)))
     (first|(refine Y _ ?_;((repeat(first|with_reducible exact Below.refl _ _|with_reducible exact b10|with_reducible exact b7|with_reducible exact b3|(with_reducible refine fM ?_)|(with_reducible refine fL ?_ _)));done))|exact ah _ b10 _ _)
     (first
      |(refine lO rfl _ _ 27 rfl 51 underlying27 pf rfl TQ TQ i (.slice (some ⟨i,0,none⟩) 0 0) 0 [] Ug (eO (sz:=3) Xm Xp) (.slice y j z) Ug j (dP j) (ag.out.a Xn) (o_ j) (qi j) ab (gn Xn) j (zero_add _) ?_;intro B C s K x;have b3:Below i i s:=lN Xn (eO (N:=i.heap.size) (sz:=3) Xm Xp) x (gn Xn) (le_refl _);(try have zR:s.heap[i.heap.size]? =some (.cells #[] 58 (0,0)):=ou Xm (eO (sz:=3) Xm Xo) TQ x);(try have zR:s.heap[i.heap.size+1]? =some (.cells #[] 58 (0,0)):=ou Xm (eO (sz:=3) Xm Xp) TQ x))
      |(refine lO rfl _ _ 27 rfl 51 underlying27 pf rfl TQ TQ i (.slice (some ⟨i.heap.size+1,0,none⟩) 0 0) 0 [] Ug (eO (sz:=3) Xm Xq) (.slice y j z) Ug j (dP j) (ag.out.a Xn) (o_ j) (qi j) ab (gn Xn) j (zero_add _) ?_;intro B C s K x;have b3:Below i i s:=lN Xn (eO (N:=i.heap.size+1) (sz:=3) Xm Xq) x (gn Xn) (le_refl _);(try have zR:s.heap[i.heap.size]? =some (.cells #[] 58 (0,0)):=ou Xm (eO (sz:=3) Xm Xp) TQ x);(try have zR:s.heap[i.heap.size+1]? =some (.cells #[] 58 (0,0)):=ou Xm (eO (sz:=3) Xm Xo) TQ x))
      |(refine lO rfl _ _ 28 rfl 58 underlying28 lh rfl TQ TQ i (.slice V d W) d _ Ug (gC F Xn) (.slice (some ⟨t,u,none⟩) 0 0) Ug 0 (ci (m.drop (d+1))) (aj.out.a Xn) ak am al (gn Xn) (d+0) rfl ?_;intro G H J R ad;have b10:Below i i J:=lN Xn (gC F Xn) ad (gn Xn) (le_refl _);have aC:=ov (gC T Xn) (gC F Xn) TQ ad;obtain⟨z0,z1,a6,a7⟩:=aF _ b10)
      |(refine lO rfl _ _ 28 rfl 58 underlying28 lh rfl TQ TQ i (.slice (some ⟨i,0,none⟩) 0 0) 0 [] Ug (eO (sz:=5) Xr Xp) (.slice (some ⟨t,u,none⟩) d (d+1)) Ug d (ci (m.take d)) (Q.out.a Xn) M P O (gn Xn) d (zero_add _) ?_;intro V W E F v;have b7:Below i i E:=lN Xn (eO (N:=i.heap.size) (sz:=5) Xr Xp) v (gn Xn) (le_refl _);have T:=ov (gC K Xn) (eO (N:=i.heap.size) (sz:=5) Xr Xp) TQ v)
      |(refine lO rfl _ _ 28 rfl 58 underlying28 lh rfl TQ TQ i (.slice (some ⟨i.heap.size+1,0,none⟩) 0 0) 0 [] Ug (eO (sz:=5) Xr Xq) (.slice (some ⟨t,u,none⟩) d (d+1)) Ug d (ci (m.take d)) (Q.out.a Xn) M P O (gn Xn) d (zero_add _) ?_;intro V W E F v;have b7:Below i i E:=lN Xn (eO (N:=i.heap.size+1) (sz:=5) Xr Xq) v (gn Xn) (le_refl _);have T:=ov (gC K Xn) (eO (N:=i.heap.size+1) (sz:=5) Xr Xp) TQ v)
      |(refine lO rfl _ _ 28 rfl 58 underlying28 lh rfl TQ TQ i (.slice (some ⟨s,0,none⟩) 0 0) 0 [] Ug (eO (sz:=5) Xr Xs) (.slice (some ⟨t,u,none⟩) d (d+1)) Ug d (ci (m.take d)) (Q.out.a Xn) M P O (gn Xn) d (zero_add _) ?_;intro V W E F v;have b7:Below i i E:=lN Xn (eO (N:=s.heap.size) (sz:=5) Xr Xs) v (gn Xn) (le_refl _);have T:=ov (gC K Xn) (eO (N:=s.heap.size) (sz:=5) Xr Xp) TQ v))
    all_goals
     have ae:=bt_ k1 b10;have hlen:(d7 k d).length=d+0:=by rw[d7,List.length_append,length_take,length_drop];have:=HKL.out;have:=ap.out;omega
     have ao:Hid (fK i (λl=>bR l (.slice B j C) j) J):=λl hx=>uN (ql aC hx (le_refl _)) (by have:=af.out;omega);go_wp2_with fail;refine bodyPost_ret (v:=.tuple #[.agg #[.slice B j C,.slice G (d+0) H],.int .i64 0]) Xt rfl ⟨B,C,G,H,by rw[D.out,I.out,HE2.out,hlen],?_,?_,(by rw[HE2.out,hlen];exact rV R),(ae.setCell (p:=⟨w.heap.size+1,0,none⟩) (show w.heap.size<=w.heap.size+1 by omega) _).setCell (p:=⟨w.heap.size+1,1,none⟩) (show w.heap.size<=w.heap.size+1 by omega) _⟩
     .rw[I.out];exact ao _ ((lg.a Xe).c (lg.a Xe))
     rw[HE2.out];have hm:(m.take d++m.drop (d+1)).length=d+0:=Xu;have av:Below w w ((J.setCell ⟨w.heap.size+1,0,none⟩ (.slice B j C)).setCell ⟨w.heap.size+1,1,none⟩ (.slice G (d+0) H)):=(ae.setCell (p:=⟨w.heap.size+1,0,none⟩) (show w.heap.size<=w.heap.size+1 by omega) _).setCell (p:=⟨w.heap.size+1,1,none⟩) (show w.heap.size<=w.heap.size+1 by omega) _
     have aw:J.ownsRow i.heap.size 58 5 (.slice G (m.take d++m.drop (d+1)).length H) (m.take d++m.drop (d+1)).length (ci (m.take d++m.drop (d+1))):=by
      rw[hm,rX];rw[List.nil_append] at R;exact R
     have h:=uO (mR (k:=1) (u:=.slice G (d+0) H) (mR (g:=w.heap.size+1) (k:=0) (u:=.slice B j C) aw Xe) Xe) Xv (λl hx=>hZ.a av (X l (ot hx)));rw[oq,HVS.out,hm] at h;rw[hlen];exact h
   have be:¬(d+1=q):=λe=>az e.symm;have bf:¬((q:Int)=(d:Int)+1):=Q0;have bg:¬((d:Int)+1=(q:Int)):=Q0;go_wp2_with fail;have Q:Hid (eE i (.slice (some ⟨t,u,none⟩) d q) d (ci (m.take d))):=uM ac.out;have aj:Hid (eE i (.slice (some ⟨t,u+(d+1)*5,none⟩) (k.length-(d+1)) (q-(d+1))) (k.length-(d+1)) (ci (m.drop (d+1)))):=(Dv ac.out);have M:Hid ((ci (m.take d)).length=d*5):=Xk;have ak:Hid ((ci (m.drop (d+1))).length=(k.length-(d+1))*5):=by show _=_;rw[oo,length_drop,HLEN.out]
   have ab:Hid (0+j.length<=1000):=by show _<=_;have:=af.out;omega
   have O:Hid (0+d<=1000):=Xl;have al:Hid (d+(k.length-(d+1))<=1000):=Xl;have P:Hid (∀A∈ci (m.take d),A.oneCell'=true):=pd λU S=>X U (mem_of_mem_take S);have am:Hid (∀A∈ci (m.drop (d+1)),A.oneCell'=true):=pd λU S=>X U (mem_of_mem_drop S)
   go_region_held3 (λl:World=>l.cell? w=some (.slice y j z)/\l.cell? ⟨w,1,none⟩=some (.slice (some ⟨t,u,none⟩) k q))
    (first|(refine Y _ ?_;((repeat(first|with_reducible exact Below.refl _ _|with_reducible exact b10|with_reducible exact b7|with_reducible exact b3|(with_reducible refine fM ?_)|(with_reducible refine fL ?_ _)));done))|exact ah _ b10 _ _)
    (first
     |(refine lO rfl _ _ 27 rfl 51 underlying27 pf rfl TQ TQ i (.slice (some ⟨i,0,none⟩) 0 0) 0 [] Ug (eO (sz:=3) Xm Xp) (.slice y j z) Ug j (dP j) (ag.out.a Xn) (o_ j) (qi j) ab (gn Xn) j (zero_add _) ?_;intro B C s K x;have b3:Below i i s:=lN Xn (eO (N:=i.heap.size) (sz:=3) Xm Xp) x (gn Xn) (le_refl _);(try have zR:s.heap[i.heap.size]? =some (.cells #[] 58 (0,0)):=ou Xm (eO (sz:=3) Xm Xo) TQ x);(try have zR:s.heap[i.heap.size+1]? =some (.cells #[] 58 (0,0)):=ou Xm (eO (sz:=3) Xm Xp) TQ x))
     |(refine lO rfl _ _ 27 rfl 51 underlying27 pf rfl TQ TQ i (.slice (some ⟨i.heap.size+1,0,none⟩) 0 0) 0 [] Ug (eO (sz:=3) Xm Xq) (.slice y j z) Ug j (dP j) (ag.out.a Xn) (o_ j) (qi j) ab (gn Xn) j (zero_add _) ?_;intro B C s K x;have b3:Below i i s:=lN Xn (eO (N:=i.heap.size+1) (sz:=3) Xm Xq) x (gn Xn) (le_refl _);(try have zR:s.heap[i.heap.size]? =some (.cells #[] 58 (0,0)):=ou Xm (eO (sz:=3) Xm Xp) TQ x);(try have zR:s.heap[i.heap.size+1]? =some (.cells #[] 58 (0,0)):=ou Xm (eO (sz:=3) Xm Xo) TQ x))
     |(refine lO rfl _ _ 28 rfl 58 underlying28 lh rfl TQ TQ i (.slice V d W) d _ Ug (gC F Xn) (.slice (some ⟨t,u+(d+1)*5,none⟩) (k.length-(d+1)) (q-(d+1))) Ug (k.length-(d+1)) (ci (m.drop (d+1))) (aj.out.a Xn) ak am al (gn Xn) (d+(k.length-(d+1))) rfl ?_;intro G H J R ad;have b10:Below i i J:=lN Xn (gC F Xn) ad (gn Xn) (le_refl _);have aC:=ov (gC T Xn) (gC F Xn) TQ ad;obtain⟨z0,z1,a6,a7⟩:=aF _ b10)
     |(refine lO rfl _ _ 28 rfl 58 underlying28 lh rfl TQ TQ i (.slice (some ⟨i,0,none⟩) 0 0) 0 [] Ug (eO (sz:=5) Xr Xp) (.slice (some ⟨t,u,none⟩) d q) Ug d (ci (m.take d)) (Q.out.a Xn) M P O (gn Xn) d (zero_add _) ?_;intro V W E F v;have b7:Below i i E:=lN Xn (eO (N:=i.heap.size) (sz:=5) Xr Xp) v (gn Xn) (le_refl _);have T:=ov (gC K Xn) (eO (N:=i.heap.size) (sz:=5) Xr Xp) TQ v)
     |(refine lO rfl _ _ 28 rfl 58 underlying28 lh rfl TQ TQ i (.slice (some ⟨i.heap.size+1,0,none⟩) 0 0) 0 [] Ug (eO (sz:=5) Xr Xq) (.slice (some ⟨t,u,none⟩) d q) Ug d (ci (m.take d)) (Q.out.a Xn) M P O (gn Xn) d (zero_add _) ?_;intro V W E F v;have b7:Below i i E:=lN Xn (eO (N:=i.heap.size+1) (sz:=5) Xr Xq) v (gn Xn) (le_refl _);have T:=ov (gC K Xn) (eO (N:=i.heap.size+1) (sz:=5) Xr Xp) TQ v)
     |(refine lO rfl _ _ 28 rfl 58 underlying28 lh rfl TQ TQ i (.slice (some ⟨s,0,none⟩) 0 0) 0 [] Ug (eO (sz:=5) Xr Xs) (.slice (some ⟨t,u,none⟩) d q) Ug d (ci (m.take d)) (Q.out.a Xn) M P O (gn Xn) d (zero_add _) ?_;intro V W E F v;have b7:Below i i E:=lN Xn (eO (N:=s.heap.size) (sz:=5) Xr Xs) v (gn Xn) (le_refl _);have T:=ov (gC K Xn) (eO (N:=s.heap.size) (sz:=5) Xr Xp) TQ v))
   all_goals
    have ae:=bt_ k1 b10;have hlen:(d7 k d).length=d+(k.length-(d+1)):=by rw[d7,List.length_append,length_take,length_drop];have:=HKL.out;omega
    have ao:Hid (fK i (λl=>bR l (.slice B j C) j) J):=λl hx=>uN (ql aC hx (le_refl _)) (by have:=af.out;omega);go_wp2_with fail;refine bodyPost_ret (v:=.tuple #[.agg #[.slice B j C,.slice G (d+(k.length-(d+1))) H],.int .i64 0]) Xt rfl ⟨B,C,G,H,by rw[D.out,I.out,HE2.out,hlen],?_,?_,(by rw[HE2.out,hlen];exact rV R),(ae.setCell (p:=⟨w.heap.size+1,0,none⟩) (show w.heap.size<=w.heap.size+1 by omega) _).setCell (p:=⟨w.heap.size+1,1,none⟩) (show w.heap.size<=w.heap.size+1 by omega) _⟩
    .rw[I.out];exact ao _ ((lg.a Xe).c (lg.a Xe))
    rw[HE2.out];have hm:(m.take d++m.drop (d+1)).length=d+(k.length-(d+1)):=Xu;have av:Below w w ((J.setCell ⟨w.heap.size+1,0,none⟩ (.slice B j C)).setCell ⟨w.heap.size+1,1,none⟩ (.slice G (d+(k.length-(d+1))) H)):=(ae.setCell (p:=⟨w.heap.size+1,0,none⟩) (show w.heap.size<=w.heap.size+1 by omega) _).setCell (p:=⟨w.heap.size+1,1,none⟩) (show w.heap.size<=w.heap.size+1 by omega) _
    have aw:J.ownsRow i.heap.size 58 5 (.slice G (m.take d++m.drop (d+1)).length H) (m.take d++m.drop (d+1)).length (ci (m.take d++m.drop (d+1))):=by
     rw[hm,rX];rw[List.nil_append] at R;exact R
    have h:=uO (mR (k:=1) (u:=.slice G (d+(k.length-(d+1))) H) (mR (g:=w.heap.size+1) (k:=0) (u:=.slice B j C) aw Xe) Xe) Xv (λl hx=>hZ.a av (X l (ot hx)));rw[oq,HVS.out,hm] at h;rw[hlen];exact h
  have aB:bQ n 0 ((k.length:Int)-1)=false:=by simp only[bQ,Bool.and_eq_false_iff,decide_eq_false_iff_not];omega
  rw[aB];have D:Hid (eu j k n=7):=by show _=_;simp only[eu,hpe,ne_eq,not_true_eq_false,if_false];rw[if_pos];omega
  have I:Hid (fN j k n=[]):=by show _=_;rw[fN,D.out,if_neg Q0]
  have HE2:Hid (fg j k n=[]):=by show _=_;rw[fg,D.out,if_neg Q0]
  go_wp2_with fail;refine bodyPost_ret (v:=.tuple #[.agg #[.slice none 0 0,.slice none 0 0],.int .i64 7]) Xx rfl ⟨none,0,none,0,by rw[D.out,I.out,HE2.out];rfl,?_,?_,Xw,(k1.setCell (p:=⟨w.heap.size+1,0,none⟩) (show w.heap.size<=w.heap.size+1 by omega) _).setCell (p:=⟨w.heap.size+1,1,none⟩) (show w.heap.size<=w.heap.size+1 by omega) _⟩
  .rw[I.out];exact⟨none,0,rfl,Q1,.inl rfl⟩
  rw[HE2.out];exact⟨none,0,rfl,Q1,.inl rfl⟩
 have aN:bP j k≠0:=hpe;have D:Hid (eu j k n=bP j k):=by show _=_;simp[eu,hpe]
 have I:Hid (fN j k n=[]):=by show _=_;rw[fN,D.out,if_neg aN]
 have HE2:Hid (fg j k n=[]):=by show _=_;rw[fg,D.out,if_neg aN]
 go_wp2_with fail;refine bodyPost_ret (v:=.tuple #[.agg #[.slice none 0 0,.slice none 0 0],.int .i64 (bP j k)]) Xx rfl ⟨none,0,none,0,by rw[D.out,I.out,HE2.out];rfl,?_,?_,Xw,(k1.setCell (p:=⟨w.heap.size+1,0,none⟩) (show w.heap.size<=w.heap.size+1 by omega) _).setCell (p:=⟨w.heap.size+1,1,none⟩) (show w.heap.size<=w.heap.size+1 by omega) _⟩
 .rw[I.out];exact⟨none,0,rfl,Q1,.inl rfl⟩
 rw[HE2.out];exact⟨none,0,rfl,Q1,.inl rfl⟩
