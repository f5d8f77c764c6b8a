import Derived.Deep.QuietTactic
import Derived.BigQuiet
import Derived.Test.YtlfccloaoopadagGreatDoorG4
import Derived.Test.YtlfccloaoopadagGreatDoorG5
open Go.Proofs.Tryz
set_option maxRecDepth 100000
set_option maxHeartbeats 0
open Bool (and_eq_true)
open Nat (add_zero le_refl zero_le zero_mul)
open List (all_cons getElem_mem mem_cons)
open Classical (not_not)
namespace Go.Proofs.YtlfccloaoopadagGreatDoor
open Go.ChangeShapes Go.WideShapes Go.ChangeAt Go.RowKit
variable{p:Prop}
def db(t:Tm):Bool:=bQ t.n 0 (if t.var then 2 else 4)
def i_(ts:List Tm):Int:=if ts.all db then 0 else 3
def lM(v:Int)(t:Tm):Bool:=t.var&&t.n==v
def ff(ts:List Tm)(v:Int):Bool:=ts.any (lM v)
theorem aeK(h:p:=by
 go_enter func217,ntmps217
 exact aek):p:=h
theorem lL(n:Int)(a:World):Calls prog 217 #[n] a λe b=>e=.returned (.bool (bQ n 0 4))/\b=a:=by
 by_cases h1:0<=n
 .by_cases h2:n<=4
  .have e:bQ n 0 4=true:=by simp[bQ,h1,h2]
   rw[e];exact aeK
  have e:bQ n 0 4=false:=by simp[bQ,h2]
  rw[e];have d:decide (n<=4)=false:=Q5;exact aeK
 have e:bQ n 0 4=false:=by simp[bQ,h1]
 rw[e];have c:decide (0<=n)=false:=Q6;exact aeK
theorem Rs(h:p:=by simp[bQ];omega):p:=h
theorem ad2(h:p:=by
 go_ret
 exact⟨rfl,bH _ _⟩):p:=h
theorem aew(h:p:=by
 go_enter func182,ntmps182
 go_wp2
 exact ad2):p:=h
theorem Cy(b)(c:World):Calls prog 182 #[.agg #[.bool b.var,b.n]] c λe f=>e=.returned (.bool (db b))/\Below c c f:=by
 obtain⟨d,a⟩:=b;cases d
 .have e:db ⟨false,a⟩=bQ a 0 4:=rfl;rw[e];go_enter func182,ntmps182;go_wp2_with(go_at_call 217;refine mq_ (lL _ _) ?_);exact ad2
 have e:db ⟨true,a⟩=bQ a 0 2:=rfl;rw[e];by_cases h1:0<=a
 .by_cases h2:a<3
  .have e:bQ a 0 2=true:=Rs;rw[e];exact aew
  have e:bQ a 0 2=false:=Rs;rw[e];have h:decide (a<3)=false:=Q5;exact aew
 have e:bQ a 0 2=false:=Rs;rw[e];have g:decide (0<=a)=false:=Q6;exact aew
theorem Rt(h:p:=by rintro rfl;simp at hlt):p:=h
theorem Ru(h:p:=by simp[hlt]):p:=h
theorem Rv(h:p:=by go_num):p:=h
theorem adT(h:p:=by simp[intOf];omega):p:=h
theorem aeA(h:p:=by
 go_round
 case rel=>exact⟨k+1,Q0,Rv,by rw[H.out];simp[*]⟩
 exact adT):p:=h
theorem rJ(d:World)(p:Int)(l)(b:Int)(a)(f:cr d l a):Calls prog 139 #[.agg #[p,l],b] d λe o=>e=.returned (.bool (ff a b))/\Below d d o:=by
 obtain⟨q,s,rfl,x,c⟩:=f;go_enter func139,ntmps139;go_wp2;go_loop [5] (λh=>∃k:Nat,k<=a.length/\h=.int .i64 k/\(a.take k).any (lM b)=false) (λh=>a.length-(intOf h).toNat)
 case atStart=>exact⟨0,zero_le _,rfl,rfl⟩
 obtain⟨k,w,rfl,i⟩:=hrel;by_cases hlt:k<a.length
 .obtain⟨r,y,rfl,t,c⟩:=c.resolve_left Rt;obtain⟨u,v⟩:=c k a[k] Ru;have j:(a.take (k+1)).any (lM b)=lM b a[k]:=by rw[j5 hlt,i,Bool.false_or]
  have g:lM b a[k]=(a[k].var&&a[k].n==b):=rfl;have H:Hid ((a.take (k+1)).any (lM b)=(a[k].var&&a[k].n==b)):=by rw[<-g];exact j
  have m:Hid ((a[k].var&&a[k].n==b)=true->ff a b=true):=λf=>mZ hlt (g.trans f);clear c j g;go_wp2
  .go_ret;exact⟨pz (m (by simp[*])).symm,bH _ _⟩
  .exact aeA
  exact aeA
 have H:Hid (ff a b=false):=l8 hlt i;go_wp2;go_ret;exact⟨pz H.out.symm,bH _ _⟩
theorem Rw(h:p:=by show _=_;rw[mz hlt,hall,Bool.true_and]):p:=h
theorem Rx(h:p:=by rw[i_,if_neg (by rw[qN hlt h];simp)]):p:=h
theorem Ry(h:p:=by show i_ ts=0;rw[i_,if_pos (nQ hlt hall)]):p:=h
theorem Kj(i:World)(m ts)(h:cr i m ts):Calls prog 147 #[m] i λe q=>e=.returned (.int .i64 (i_ ts))/\q=i:=by
 obtain⟨r,t,rfl,y,c⟩:=h;go_enter func147,ntmps147;go_wp2;go_loop [3] (λf=>∃a:Nat,a<=ts.length/\f=.int .i64 a/\(ts.take a).all db=true) (λf=>ts.length-(intOf f).toNat)
 case atStart=>exact⟨0,zero_le _,rfl,rfl⟩
 obtain⟨a,x,rfl,hall⟩:=hrel;by_cases hlt:a<ts.length
 .obtain⟨s,z,rfl,u,c⟩:=c.resolve_left Rt;obtain⟨v,w⟩:=c a ts[a] Ru;have b:Hid ((ts.take (a+1)).all db=db ts[a]):=Rw;have j:Hid (db ts[a]=false->i_ ts=3):=λh=>Rx;have k:Hid (db ts[a]=bQ ts[a].n 0 (if ts[a].var then 2 else 4)):=rfl;clear c hall;generalize ts[a]=p at*;obtain⟨g,l⟩:=p;cases d:db ⟨g,l⟩
  all_goals
   have o:bQ l 0 (if g then 2 else 4)=_:=k.out.symm.trans d;rw[d] at b j;clear k d;cases g
   all_goals
    simp only[if_true,if_false,Bool.false_eq_true] at o;go_wp2_with(go_at_call 87;refine mq_ (et _ _ _ _) ?_)
    first
     |(go_ret;exact⟨eJ (j Q1).symm,rfl⟩)
     |(go_round
       case rel=>exact⟨a+1,Q0,Rv,b.out⟩
       simp[intOf];omega)
 have b:Hid (i_ ts=0):=Ry;go_wp2;go_ret;exact⟨eJ b.out.symm,rfl⟩
def bJ(ps:List Prd)(p:Int):Int:=(ps[p.toNat]?.map Prd.kind).getD 0
def dN(ps:List Prd)(p:Int):Int:=(ps[p.toNat]?.map Prd.arity).getD 0
def gl(ps:List Prd)(p:Int):Bool:=bQ p 0 ((ps.length:Int)-1)
def cf(ps:List Prd)(a:Atm):Int:=if gl ps a.pred then(if(a.args.length:Int)=dN ps a.pred then i_ a.args else 1) else 7
theorem fd{a p}:gl a p=true↔∃k:Nat,k<a.length/\p=(k:Int):=by
 simp only[gl,bQ,and_eq_true,decide_eq_true_eq];constructor
 .rintro⟨b,c⟩;exact⟨p.toNat,Q0,Q0⟩
 rintro⟨k,d,rfl⟩;omega
theorem Rz(h:p:=by rintro rfl;simp at hk):p:=h
theorem RA(h:p:=by simp[hk]):p:=h
theorem RB(h:p:=by rw[cf,if_pos h1,if_pos (by rw[ha];exact h2)]):p:=h
theorem RC(h:p:=by rw[cf,if_pos h1,if_neg (by rw[ha];exact h2)]):p:=h
theorem aaC(h:p:=by
 go_wp2_with fail
 go_ret
 exact⟨rfl,below_drewN (bH _ _) _⟩):p:=h
theorem p8(d:World)(i j a)(p:Int)(c)(o:bR d i a)(g:cr d j c):Calls prog 100 #[i,.agg #[p,j]] d λe k=>e=.returned (.int .i64 (cf a ⟨p,c⟩))/\Below d d k:=by
 have h:=g;have l:=lt_ h;obtain⟨s,u,rfl,z,r⟩:=g;obtain⟨C,D,rfl,A,f⟩:=o;clear r h;by_cases h1:gl a p=true
 .obtain⟨b,hk,rfl⟩:=fd.1 h1;obtain⟨t,B,rfl,v,f⟩:=f.resolve_left Rz;obtain⟨w,x,y⟩:=f b a[b] RA;clear f;have ha:dN a (b:Int)=a[b].arity:=by simp[dN,hk]
  have q:bQ (b:Int) 0 ((a.length:Int)-1)=true:=h1;by_cases h2:(c.length:Int)=a[b].arity
  .have e:cf a ⟨(b:Int),c⟩=i_ c:=RB;rw[e];clear e ha h1;have n:((c.length:Int) != a[b].arity)=false:=Q5;clear h2;go_enter func100,ntmps100;go_wp2_with(go_at_call 87;refine mq_ (et _ _ _ _) ?_);go_quiet (fail);go_wp2_with fail;refine(Kj _ _ c (l _ (by exact below_drewN (bH _ _) _))).mono ?_;rintro e k ⟨rfl,rfl⟩;exact aaC
  have e:cf a ⟨(b:Int),c⟩=1:=RC;rw[e];clear e ha h1;have n:((c.length:Int) != a[b].arity)=true:=Q5;clear h2;go_enter func100,ntmps100;go_wp2_with(go_at_call 87;refine mq_ (et _ _ _ _) ?_);go_quiet (fail);exact aaC
 have m:=Q6;have e:cf a ⟨p,c⟩=7:=by rw[cf,if_neg h1]
 rw[e];clear e h1;have q:bQ p 0 ((a.length:Int)-1)=false:=m;go_enter func100,ntmps100;go_wp2_with(go_at_call 87;refine mq_ (et _ _ _ _) ?_);exact ad2
theorem RD(h:p:=by simp;omega):p:=h
theorem RE(h:p:=by rw[bF hbr hbl',ht1]):p:=h
theorem RF(h:p:=by rw[bF hbr hbl',ht2]):p:=h
theorem YO(h:p:=by
 go_wp2_with fail
 go_ret
 exact⟨rfl,bH _ _⟩):p:=h
theorem rH(f:World)(s t b)(p:Int)(ts)(hp:bR f s b)(h:cr f t ts):Calls prog 128 #[s,.agg #[p,t]] f λe A=>e=.returned (.int .i64 (cf b ⟨p,ts⟩))/\Below f f A:=by
 obtain⟨B,D,rfl,I,d⟩:=h;obtain⟨O,P,rfl,K,i⟩:=hp;by_cases h1:gl b p=true
 .obtain⟨c,hk,rfl⟩:=fd.1 h1;obtain⟨C,N,rfl,E,i⟩:=i.resolve_left Rz;obtain⟨x,y,z⟩:=i c b[c] RA;clear i;have ha:dN b (c:Int)=b[c].arity:=by simp[dN,hk]
  have G:((c:Int)<0)=False:=Q1;have H:((b.length:Int)<=(c:Int))=False:=RD;by_cases h2:(ts.length:Int)=b[c].arity
  .have e:cf b ⟨(c:Int),ts⟩=i_ ts:=RB;rw[e];clear e ha h1;have w:((ts.length:Int) != b[c].arity)=false:=Q5;clear h2;have l:=hid_ d;clear d;go_enter func128,ntmps128;go_wp2_with fail;go_quiet (fail);go_wp2_with fail;go_loopw [30] (λk wr=>∃a:Nat,a<=ts.length/\k=.int .i64 a/\(ts.take a).all db=true/\Below f f wr) (λk _=>ts.length-(intOf k).toNat)
   case atStart=>exact⟨0,zero_le _,rfl,rfl,below_drewN (bH _ _) _⟩
   obtain⟨a,F,rfl,hall,hbr⟩:=hrel;by_cases hlt:a<ts.length
   .obtain⟨m,r,rfl,hbl',d⟩:=l.out.resolve_left Rt;obtain⟨ht1,ht2⟩:=d a ts[a] Ru;have L:wr.cell? ⟨m,r+a*2,none⟩=some (.bool ts[a].var):=RE;have M:wr.cell? ⟨m,r+a*2+1,none⟩=some (.int .i64 ts[a].n):=RF;have g:Hid ((ts.take (a+1)).all db=db ts[a]):=Rw;have j:Hid (db ts[a]=false->i_ ts=3):=λh=>Rx;clear d hall ht1 ht2 l x y z;generalize ts[a]=u at*;go_wp2_with fail;refine mo_ (Cy u _) λQ o=>?_;cases q:db u
    .have v:=hid_ (j q);clear g j;go_wp2_with fail;go_ret;exact⟨eJ v.out.symm,hbr.trans (((bH _ _).trans (o.mono Q1)).mono hbr.size)⟩
    rw[q] at g;clear j;go_wp2_with fail;go_roundw
    case rel=>exact⟨a+1,Q0,Rv,g.out,hbr.trans (((bH _ _).trans (o.mono Q1)).mono hbr.size)⟩
    exact adT
   have g:Hid (i_ ts=0):=Ry;go_wp2_with fail;go_ret;exact⟨eJ g.out.symm,hbr⟩
  have e:cf b ⟨(c:Int),ts⟩=1:=RC;rw[e];clear e ha h1 d;have w:((ts.length:Int) != b[c].arity)=true:=Q5;clear h2;go_enter func128,ntmps128;go_wp2_with fail;go_quiet (fail);exact aaC
 have e:cf b ⟨p,ts⟩=7:=by rw[cf,if_neg h1]
 have hp:p<0\/(b.length:Int)<=p:=by simp[gl,bQ] at h1;omega
 rw[e];clear e h1 d i;rcases hp with hp|hp
 .go_enter func128,ntmps128;exact YO
 have J:decide (p<0)=false:=RD;go_enter func128,ntmps128;exact YO
def k8(v:Int)(l:Ltr):Bool:= !l.neg&&ff l.atom.args v
def jQ(r:Rul)(v:Int):Bool:=r.body.any (k8 v)
def k9(ps:List Prd)(r:Rul):Bool:=(r.body[r.src.toNat]?.map λl=> !l.neg&&bJ ps l.atom.pred==bJ ps r.head.pred).getD false
def gB(ps:List Prd)(r:Rul):Int:=
 if r.src< -1\/(r.body.length:Int)<=r.src then 3
 else if bJ ps r.head.pred=0/\(r.src≠ -1\/r.n≠0) then 1
 else if 0<=r.src/\k9 ps r=false then 1
 else if r.n<0\/15<r.n then 3 else 0
theorem RG(h:p:=by rw[hbr.cell (p:=⟨w,4,none⟩) (by simp)];simp[go_sem]):p:=h
theorem RH(h:p:=by intro e;rw[e] at hlt;simp at hlt):p:=h
theorem RI(h:p:=by have:=hbr.size;simp at this;omega):p:=h
theorem Kk(w:World)(c z r)(f:Int)(D:dC w r c.body):Calls prog 140 #[.agg #[c.head.pred,z,c.src,c.n,r],f] w λe L=>e=.returned (.bool (jQ c f))/\Below w w L:=by
 obtain⟨q,s,rfl,O,j⟩:=D;have o:=hid_ j;clear j;go_enter func140,ntmps140;go_wp2_with fail;go_loopw [5] (λm wr=>∃d:Nat,d<=c.body.length/\m=.int .i64 d/\(c.body.take d).any (k8 f)=false/\ Below (w.heap.size+1) (w.alloc (.cells #[c.head.pred,z,c.src,c.n,.slice q c.body s] 58)) wr) (λm _=>c.body.length-(intOf m).toNat)
 case atStart=>exact⟨0,zero_le _,rfl,rfl,Below.refl _ _⟩
 obtain⟨d,N,rfl,l,hbr⟩:=hrel;have v:=(bH _ _).trans (hbr.mono Q0);have M:wr.cell? ⟨w,4,none⟩=some (.slice q c.body s):=RG;by_cases hlt:d<c.body.length
 .obtain⟨B,S,rfl,F,j⟩:=o.out.resolve_left RH;obtain⟨P,Q,J,K,R,y⟩:=(oL.b w wr B _ _ v F (j d c.body[d] Ru)).a;have g:Hid ((c.body.take (d+1)).any (k8 f)=k8 f c.body[d]):=by show _=_;rw[j5 hlt,l,Bool.false_or]
  have i:Hid (k8 f c.body[d]=true->jQ c f=true):=λC=>mZ hlt C;clear j l o;generalize c.body[d]=G at*;obtain⟨H,I,h⟩:=G;have A:Hid (cr wr (.slice J h K) h):=y;clear y;cases H
  .have t:k8 f ⟨false,I,h⟩=ff h f:=rfl;rw[t] at g i;clear t;go_wp2_with fail;refine mo_ (rJ _ _ _ _ h A.out) λT E=>?_;have u:=hbr.trans (E.mono RI);cases x:ff h f
   .rw[x] at g;clear i;go_wp2_with fail;go_roundw
    case rel=>exact⟨d+1,Q0,Rv,g.out,u⟩
    exact adT
   have k:=hid_ (i x);clear g i;go_wp2_with fail;go_ret;exact⟨pz k.out.symm,(bH _ _).trans (u.mono Q0)⟩
  have k:Hid ((c.body.take (d+1)).any (k8 f)=false):=g.out;clear g i;go_wp2_with fail;go_roundw
  case rel=>exact⟨d+1,Q0,Rv,k.out,hbr⟩
  exact adT
 have g:Hid (jQ c f=false):=l8 hlt l;go_wp2_with fail;go_ret;exact⟨pz g.out.symm,v⟩
theorem uw(d:World)(j a)(f:Bool)(g:Int)(m)(k:Int)(l:bR d j a)(i:gl a g=true):Calls prog 207 #[j,.agg #[.bool f,g,m],k] d λe n=>e=.returned (.bool (!f&&bJ a g==k))/\Below d d n:=by
 obtain⟨w,x,rfl,u,c⟩:=l;obtain⟨b,hk,rfl⟩:=fd.1 i;obtain⟨o,v,rfl,q,c⟩:=c.resolve_left Rz;obtain⟨r,s,t⟩:=c b a[b] RA;have h:bJ a (b:Int)=a[b].kind:=by simp[bJ,hk]
 rw[h];clear c h i;cases f
 .cases p:(a[b].kind==k)
  all_goals
   go_enter func207,ntmps207;go_wp2_with fail;go_ret;exact⟨rfl,bH _ _⟩
 go_enter func207,ntmps207;exact YO
theorem CM{c a}(b:a.src< -1\/(a.body.length:Int)<=a.src):gB c a=3:=by rw[gB,if_pos b]
theorem uA{b a}(d:¬(a.src< -1\/(a.body.length:Int)<=a.src))(f:bJ b a.head.pred=0)(c:a.src≠ -1\/a.n≠0):gB b a=1:=by rw[gB,if_neg d,if_pos ⟨f,c⟩]
theorem CL{b a}(d:¬(a.src< -1\/(a.body.length:Int)<=a.src))(g:bJ b a.head.pred≠0)(f:0<=a.src)(c:k9 b a=false):gB b a=1:=by
 rw[gB,if_neg d,if_neg (λh=>g h.1),if_pos ⟨f,c⟩]
theorem qe{ps r}(c:¬(r.src< -1\/(r.body.length:Int)<=r.src))(d:bJ ps r.head.pred=0->r.src= -1/\r.n=0)(b:0<=r.src->k9 ps r=true):gB ps r=if r.n<0\/15<r.n then 3 else 0:=by
 rw[gB,if_neg c,if_neg (λa=>by obtain⟨f,g⟩:=a;have:=d f;omega),if_neg (λa=>by rw[b a.1] at a;cases a.2)]
theorem RJ(h:p:=by simpa using h3):p:=h
theorem RK(h:p:=by exact bH _ _):p:=h
theorem RL(h:p:=by simpa using h4):p:=h
theorem ae_(h:p:=by
 go_enter func165,ntmps165
 go_wp2_with fail
 refine mo_ (uw _ _ ps _ _ _ _ (HP _ RK) hl) λw1 hb1=>?_
 obtain⟨hc,hf⟩:=fR hb1
 go_wp2_with fail
 go_ret
 exact⟨rfl,cU (bH _ _) hb1⟩):p:=h
theorem abX(h:p:=by
 go_enter func165,ntmps165
 exact YO):p:=h
theorem Km(s:World)(C ps b H w)(y:bR s C ps)(E:dC s w b.body)(j:gl ps b.head.pred=true)(k:∀l∈b.body,gl ps l.atom.pred=true):Calls prog 165 #[C,.agg #[b.head.pred,H,b.src,b.n,w]] s λe I=>e=.returned (.int .i64 (gB ps b))/\Below s s I:=by
 have z:=y;have HP:=lp_ z;clear z;obtain⟨J,M,rfl,U,f⟩:=E;obtain⟨ab,ac,rfl,V,v⟩:=y;obtain⟨h,hk,d⟩:=fd.1 j;obtain⟨K,Z,rfl,R,v⟩:=v.resolve_left Rz;obtain⟨F,G,T⟩:=v h ps[h] RA;have c:bJ ps b.head.pred=ps[h].kind:=by rw[d];simp[bJ,hk]
 clear v F G;by_cases h1:b.src< -1\/(b.body.length:Int)<=b.src
 .rw[CM h1,d];clear c f k j;rcases h1 with h1|h1
  .exact abX
  have O:decide (b.src< -1)=false:=RD;exact abX
 have A:decide (b.src< -1)=false:=RD;have B:decide ((b.body.length:Int)<=b.src)=false:=RD;by_cases h0:ps[h].kind=0
 .have D:(ps[h].kind==0)=true:=by simp[h0]
  by_cases h2:b.src= -1
  .have o:(b.src != -1)=false:=by simp[h2]
   have t:decide (0<=b.src)=false:=RD;by_cases h3:b.n=0
   .rw[qe h1 (λ_=>⟨h2,h3⟩) (λN=>Q0),if_neg Q0,d];clear c f k j h0 h1 h2;have p:(b.n != 0)=false:=by simp[h3]
    have P:decide (b.n<0)=false:=RD;have Q:decide (15<b.n)=false:=RD;clear h3;exact abX
   rw[uA h1 (c.trans h0) (.inr h3),d];clear c f k j h0 h1 h2;have p:(b.n != 0)=true:=RJ;clear h3;exact abX
  rw[uA h1 (c.trans h0) (.inl h2),d];clear c f k j h0 h1;have o:(b.src != -1)=true:=Q5;clear h2;exact abX
 have D:(ps[h].kind==0)=false:=Q8;by_cases h2:0<=b.src
 .have o:decide (0<=b.src)=true:=Q5;obtain⟨g,q⟩:∃g:Nat,b.src=(g:Int):=⟨b.src.toNat,Q0⟩;have hlt:g<b.body.length:=Q0;obtain⟨L,aa,rfl,S,f⟩:=f.resolve_left RH;obtain⟨W,X,ad,ae,Y,_⟩:=(f g b.body[g] Ru).a;have hl:=k b.body[g] (getElem_mem hlt);have u:k9 ps b=(!b.body[g].neg&&bJ ps b.body[g].atom.pred==ps[h].kind):=by simp[k9,q,hlt,c]
  clear f k j;rw[d];generalize b.body[g]=l at*;cases x:(!l.neg&&bJ ps l.atom.pred==ps[h].kind)
  .rw[CL h1 (by rw[c];exact h0) h2 (u.trans x)];clear c u h0 h1 h2 d;have i:=hid_ q;rw[i.out];rw[i.out] at A B o;clear q i;exact ae_
  have r:=qe (ps:=ps) (r:=b) h1 (λe=>absurd (c.symm.trans e) h0) (λ_=>u.trans x);clear c u h0 h1 h2 d;have i:=hid_ q;have m:=hid_ r;rw[i.out];rw[i.out] at A B o;clear q i r;by_cases h3:b.n<0
  .rw[m.out,if_pos (.inl h3)];clear m;have t:decide (b.n<0)=true:=RJ;clear h3;exact ae_
  have t:decide (b.n<0)=false:=RJ;by_cases h4:15<b.n
  .rw[m.out,if_pos (.inr h4)];clear m h3;have p:decide (15<b.n)=true:=RL;clear h4;exact ae_
  rw[m.out,if_neg Q0];clear m h3;have p:decide (15<b.n)=false:=RL;clear h4;exact ae_
 have o:decide (0<=b.src)=false:=Q5;have r:=qe (ps:=ps) (r:=b) h1 (λe=>absurd (c.symm.trans e) h0) (λe=>absurd e h2);rw[r,d];clear c f k j h0 h1 h2 r d;by_cases h3:b.n<0
 .rw[if_pos (.inl h3)];have t:decide (b.n<0)=true:=RJ;clear h3;exact abX
 have t:decide (b.n<0)=false:=RJ;by_cases h4:15<b.n
 .rw[if_pos (.inr h4)];clear h3;have p:decide (15<b.n)=true:=RL;clear h4;exact abX
 rw[if_neg Q0];clear h3;have p:decide (15<b.n)=false:=RL;clear h4;exact abX
def g8(ps:List Prd)(l:Ltr):Bool:=cf ps l.atom==0
def ml(ps:List Prd):List Ltr->Int
 |[]=>0
 |l::ls=>if cf ps l.atom=0 then ml ps ls else cf ps l.atom
def dj(r:Rul)(v:Int):Bool:=ff r.head.args v||r.body.any λl=>ff l.atom.args v
def eW(r:Rul)(v:Int):Bool:=dj r v&& !jQ r v
def cx(ps:List Prd)(r:Rul):Int:=
 if cf ps r.head≠0 then cf ps r.head
 else if 3<r.body.length then 2
 else if ml ps r.body≠0 then ml ps r.body
 else if eW r 0||(eW r 1||eW r 2) then 9
 else gB ps r
theorem Cs{b}:∀{a:List Ltr} {c:Nat} (h:c<a.length),(a.take c).all (g8 b)=true->cf b a[c].atom≠0->ml b a=cf b a[c].atom
 |[],c,h,_,_=>absurd h Q1
 |l::a,0,h,_,f=>by
  show ml b (l::a)=cf b l.atom
  rw[ml,if_neg (show¬cf b l.atom=0 from f)]
 |l::a,c+1,h,d,f=>by
  simp only[List.take_succ_cons,all_cons,and_eq_true] at d
  have g:=by simpa[g8] using d.1
  rw[ml,if_pos g]
  exact Cs Q2 d.2 f
theorem xz{c}:∀{b:List Ltr},b.all (g8 c)=true->ml c b=0
 |[],_=>rfl
 |l::b,a=>by
  simp only[all_cons,and_eq_true] at a
  have d:=by simpa[g8] using a.1
  rw[ml,if_pos d]
  exact xz a.2
theorem CI{a b}(c:cf a b.head≠0):cx a b=cf a b.head:=by rw[cx,if_pos c]
theorem RM(h:p:=by simp[h]):p:=h
theorem CJ{b a}(h:cf b a.head=0)(c:3<a.body.length):cx b a=2:=by rw[cx,if_neg RM,if_pos c]
theorem CG{b a}(h:cf b a.head=0)(f:¬3<a.body.length){c}(i:c<a.body.length)(g:(a.body.take c).all (g8 b)=true)(d:cf b a.body[c].atom≠0):cx b a=cf b a.body[c].atom:=by
 have:=Cs i g d;rw[cx,if_neg RM,if_neg f,if_pos (by rw[this];exact d),this]
theorem CH{b a}(h:cf b a.head=0)(c:¬3<a.body.length)(d:a.body.all (g8 b)=true)(f:(eW a 0||(eW a 1||eW a 2))=true):cx b a=9:=by
 rw[cx,if_neg RM,if_neg c,if_neg (by rw[xz d];simp),if_pos f]
theorem CK{b a}(h:cf b a.head=0)(c:¬3<a.body.length)(d:a.body.all (g8 b)=true)(f:(eW a 0||(eW a 1||eW a 2))=false):cx b a=gB b a:=by
 rw[cx,if_neg RM,if_neg c,if_neg (by rw[xz d];simp),if_neg (by rw[f];simp)]
theorem gP{c b}(a:cf c b=0):gl c b.pred=true/\b.args.all db=true:=by
 unfold cf at a;split at a
 .rename_i h1;split at a
  .refine⟨h1,?_⟩;unfold i_ at a;split at a
   .assumption
   cases a
  cases a
 cases a
def iY(r:Rul)(l:Ltr):ai:=⟨r.head.pred.toNat,l.atom.pred.toNat,l.neg⟩
def cI(rs:List Rul):List ai:=rs.flatMap λr=>r.body.map (iY r)
def jN(b:Nat):Bool:=decide (97<=b)&&decide (b<=122)
def jM(s:ByteArray):List Nat:=s.data.toList.map UInt8.toNat
def fY(s:ByteArray):Bool:=(jM s).all jN&&bQ (s.size:Int) 1 8
def jO(ps:List Prd):List Rul->Int
 |[]=>0
 |r::rs=>if cx ps r=0 then jO ps rs else cx ps r
def iJ(ps:List Prd):Bool:=(List.range ps).any λk=>(ps.take k).any λq=>q.name.toList==((ps[k]?.map Prd.name).getD ⟨#[]⟩).toList
def ej(ps:List Prd)(rs:List Rul):Int:=
 if 5<ps.length\/8<rs.length then 2
 else if ps.any (λq=> !fY q.name) then 5
 else if iJ ps then 6
 else if ps.any (λq=> !bQ q.arity 0 2) then 3
 else if ps.any (λq=> !bQ q.kind 0 3) then 4
 else jO ps rs
def bP(ps:List Prd)(rs:List Rul):Int:=
 if ej ps rs≠0 then ej ps rs else if(eX (cI rs) ps).isSome then 0 else 8
theorem xi{a}:∀{c:List Rul} {b:Nat} (h:b<c.length),(c.take b).all (λj=>cx a j==0)=true->cx a c[b]≠0->jO a c=cx a c[b]
 |[],b,h,_,_=>absurd h Q1
 |l::g,0,h,_,f=>by
  show jO a (l::g)=cx a l
  rw[jO,if_neg (show¬cx a l=0 from f)]
 |l::g,b+1,h,d,f=>by
  simp only[List.take_succ_cons,all_cons,and_eq_true] at d
  have i:=by simpa using d.1
  rw[jO,if_pos i]
  exact xi Q2 d.2 f
theorem ud{b}:∀{c:List Rul},c.all (λf=>cx b f==0)=true->jO b c=0
 |[],_=>rfl
 |l::g,a=>by
  simp only[all_cons,and_eq_true] at a
  have d:=by simpa using a.1
  rw[jO,if_pos d]
  exact ud a.2
theorem pV{c}:∀{d:List Rul},jO c d=0->∀a∈d,cx c a=0
 |[],_,a,h=>Rm
 |l::f,b,a,h=>by
  rw[jO] at b
  split at b
  .rename_i h0
   rcases mem_cons.1 h with rfl|h
   .exact h0
   exact pV b a h
  contradiction
structure aC (ps:List Prd) (r:Rul):Prop where
 head:r.head.pred.toNat<ps.length/\r.head.pred=(r.head.pred.toNat:Int)
 body:∀l∈r.body,l.atom.pred.toNat<ps.length/\l.atom.pred=(l.atom.pred.toNat:Int)
 few:r.body.length<=3
theorem tW{c}:∀{b:List Ltr},ml c b=0->∀l∈b,cf c l.atom=0
 |[],_,d,h=>Rm
 |l::b,a,d,h=>by
  rw[ml] at a
  split at a
  .rename_i h0
   rcases mem_cons.1 h with rfl|h
   .exact h0
   exact tW a d h
  contradiction
theorem rB{b a}(c:cf b a=0):a.pred.toNat<b.length/\a.pred=(a.pred.toNat:Int):=by
 obtain⟨f,hk,d⟩:=fd.1 (gP c).1;rw[d];exact⟨Rq,Q1⟩
theorem Jn{b c}(a:cx b c=0):aC b c:=by
 rw[cx] at a;split at a
 .contradiction
 rename_i h1;split at a
 .contradiction
 rename_i h2;split at a
 .contradiction
 rename_i h3;exact⟨rB (not_not.1 h1),λf d=>rB (tW (not_not.1 h3) f d),Q0⟩
theorem gN{b d}(a:ej b d=0):b.length<=5/\d.length<=8/\∀c∈d,aC b c:=by
 rw[ej] at a;split at a
 .contradiction
 rename_i h1;split at a
 .contradiction
 split at a
 .contradiction
 split at a
 .contradiction
 split at a
 .contradiction
 exact⟨Q0,Q0,λc f=>Jn (pV a c f)⟩
theorem lJ{f g}(c:∀a∈g,aC f a):gS (cI g) f.length:=by
 intro e b;obtain⟨a,d,b⟩:=List.mem_flatMap.1 b;obtain⟨i,h,rfl⟩:=List.mem_map.1 b;exact⟨(c a d).head.1,((c a d).body i h).1⟩
theorem gO{b c}(a:bP b c=0):ej b c=0/\∃l,eX (cI c) b.length=some l:=by
 rw[bP] at a;split at a
 .contradiction
 rename_i h1;refine⟨not_not.1 h1,?_⟩;split at a
 .rename_i h2;exact Option.isSome_iff_exists.1 h2
 contradiction
structure ae where
 x:Int
 y:Int
 z:Int
def ae.a(v:ae)(n:Int):Int:=if n=0 then v.x else if n=1 then v.y else v.z
def fJ(v:ae)(t:Tm):Int:=if t.var then v.a t.n else t.n
def gQ(v:ae)(t:Tm):Bool:=db t&&bQ (fJ v t) 0 4
def g_(v:ae)(ts:List Tm):Int:=if 2<ts.length then 1 else if ts.all (gQ v) then 0 else 3
def bZ(v:ae)(ts:List Tm)(i:Nat):Int:=(ts[i]?.map (fJ v)).getD 0
def Cx(v:ae)(p:Int)(ts:List Tm):Fct:=⟨p,bZ v ts 0,bZ v ts 1,0⟩
def ja(v:ae)(p:Int)(ts:List Tm):Fct:=if g_ v ts=0 then Cx v p ts else⟨0,0,0,0⟩
theorem Cq{d:ae}{c:List Tm}{a:Nat}(g:a<c.length)(b:Nat):bZ d (c.take (a+1)) b=if b=a then fJ d c[a] else bZ d (c.take a) b:=by
 unfold bZ;by_cases f:b=a
 .subst f;simp[g]
 rw[if_neg f];by_cases h:b<a
 .rw[List.getElem?_take_of_lt Q0,List.getElem?_take_of_lt h]
 rw[List.getElem?_eq_none RD,List.getElem?_eq_none RD]
structure aO (w:World) (p:Int) (v:ae) (wr:World) (x y:Int):Prop where
 below:Below w w wr
 size:w.heap.size+1+1+1<wr.heap.size
 c0:wr.cell? w=some (.int .i64 p)
 x0:wr.cell? ⟨w.heap.size+1,0,none⟩=some (.int .i64 v.x)
 x1:wr.cell? ⟨w.heap.size+1,1,none⟩=some (.int .i64 v.y)
 x2:wr.cell? ⟨w.heap.size+1,2,none⟩=some (.int .i64 v.z)
 z0:wr.cell? ⟨w.heap.size+1+1,0,none⟩=some (.int .i64 0)
 z1:wr.cell? ⟨w.heap.size+1+1,1,none⟩=some (.int .i64 0)
 z2:wr.cell? ⟨w.heap.size+1+1,2,none⟩=some (.int .i64 0)
 z3:wr.cell? ⟨w.heap.size+1+1,3,none⟩=some (.int .i64 0)
 zf:∀o,wr.frozen? ⟨w.heap.size+1+1,o,none⟩=false
 a0:wr.cell? ⟨w.heap.size+1+1+1,0,none⟩=some (.int .i64 x)
 a1:wr.cell? ⟨w.heap.size+1+1+1,1,none⟩=some (.int .i64 y)
 af:∀o,wr.frozen? ⟨w.heap.size+1+1+1,o,none⟩=false
theorem aO.c{f:World}{p d}{wr g:World}{h i}(a:aO f p d wr h i)(b:Below wr wr g):aO f p d g h i:=by
 have k:=a.size;have l:=b.size
 exact⟨a.below.trans (b.mono a.below.size),Q0,by rw[bF b Q0,a.c0],by rw[bF b Q0,a.x0],by rw[bF b Q0,a.x1],by rw[bF b Q0,a.x2],
  by rw[bF b Q0,a.z0],by rw[bF b Q0,a.z1],by rw[bF b Q0,a.z2],by rw[bF b Q0,a.z3],
  λj=>by rw[(fR b).2 _ _ Q0,a.zf],by rw[bF b Q0,a.a0],by rw[bF b Q0,a.a1],λj=>by rw[(fR b).2 _ _ Q0,a.af]⟩
theorem Sc(h:p:=by rw[cb (by omega),h.x0]):p:=h
theorem Sd(h:p:=by rw[cb (by omega),h.x1]):p:=h
theorem Se(h:p:=by rw[cb (by omega),h.x2]):p:=h
theorem Sf(h:p:=by rw[cF];exact h.size):p:=h
theorem Sg(h:p:=by rw[cb (by omega),h.z1]):p:=h
theorem Sh(h:p:=by rw[cb (by omega),h.z2]):p:=h
theorem Si(h:p:=by rw[cb (by omega),h.z3]):p:=h
theorem aO.a{b:World}{p:Int}{c}{wr:World}{g d:Int}(h:aO b p c wr g d)(n:Int):aO b p c (wr.setCell ⟨b.heap.size+1+1+1,0,none⟩ n) n d:=
 ⟨h.below.setCell RD _,Sf,by rw[cb Q0,h.c0],Sc,Sd,Se,
  by rw[cb Q0,h.z0],Sg,Sh,Si,λf=>by rw[gI,h.zf],
  fC h.a0,by rw[cP Q0,h.a1],λf=>by rw[gI,h.af]⟩
theorem aO.b{a:World}{p:Int}{c}{wr:World}{d g:Int}(h:aO a p c wr d g)(n:Int):aO a p c (wr.setCell ⟨a.heap.size+1+1+1,1,none⟩ n) d n:=
 ⟨h.below.setCell RD _,Sf,by rw[cb Q0,h.c0],Sc,Sd,Se,
  by rw[cb Q0,h.z0],Sg,Sh,Si,λf=>by rw[gI,h.zf],
  by rw[cP Q0,h.a0],fC h.a1,λf=>by rw[gI,h.af]⟩
theorem Sj(h:p:=by rw[e];simp):p:=h
theorem Sk(h:p:=by intro o;simp[go_sem]):p:=h
theorem Sl(h:p:=by simp[go_sem,bZ]):p:=h
theorem Sm(h:p:=by show _=_;rw[ja,if_neg (by rw[H3.out];simp)]):p:=h
theorem Sn(h:p:=by simp[results,results176,go_sem, *]):p:=h
theorem So(h:p:=by rw[H4.out,H3.out]):p:=h
theorem Sp(h:p:=by rw[HA 0];rfl):p:=h
theorem Sq(h:p:=by rw[HA 1];rfl):p:=h
theorem Sr(h:p:=by rw[HA0.out.1,HA0.out.2];exact HG1.out.a _):p:=h
theorem Ss(h:p:=by rw[HA0.out.1,HA0.out.2];exact HG1.out.b _):p:=h
theorem St(h:p:=by simp only[gQ,hok];exact hw2):p:=h
theorem Su(h:p:=by show _=_;rw[H.out,gQ,hok];exact hw2):p:=h
theorem ae8(h:p:=by
 have H3:=hid_ (H2 St)
 have H4:Hid (ja v p ts=⟨0,0,0,0⟩):=Sm
 clear H H2 HA
 go_wp2_with(go_at_call 217;refine mq_ (lL _ _) ?_)
 exact bodyPost_ret (v:=.tuple #[.agg #[.int .i64 0,.int .i64 0,.int .i64 0,.int .i64 0],.int .i64 3]) Sn rfl ⟨So,(((hbw.setCell RD _).setCell RD _).setCell RD _).setCell RD _⟩):p:=h
theorem afn(h:p:=by
 clear HA
 go_wp2_with(go_at_call 217;refine mq_ (lL _ _) ?_)
 go_roundw
 case rel=>exact⟨1+1,Q0,rfl,H3.out,Ss⟩
 exact adT):p:=h
theorem afo(h:p:=by
 clear HA
 go_wp2_with(go_at_call 217;refine mq_ (lL _ _) ?_)
 go_roundw
 case rel=>exact⟨0+1,Q0,rfl,H3.out,Sr⟩
 exact adT):p:=h
theorem xD(g:World)(F:Value)(p:Int)(ts:List Tm)(v:ae)(l:cr g F ts):
 Calls prog 176 #[.agg #[p,F],.agg #[v.x,v.y,v.z]] g λe K=>e=.returned (.tuple #[.agg #[.int .i64 (ja v p ts).pred,.int .i64 (ja v p ts).a,.int .i64 (ja v p ts).b,.int .i64 (ja v p ts).val],.int .i64 (g_ v ts)])/\Below g g K:=by
 obtain⟨M,R,rfl,V,i⟩:=l
 have t:=hid_ i
 clear i
 by_cases m:2<ts.length
 .have e:g_ v ts=1:=by rw[g_,if_pos m]
  have w:ja v p ts=⟨0,0,0,0⟩:=by rw[ja,if_neg Sj]
  rw[e,w]
  clear e w
  have I:(2:Int)<(ts.length:Int):=Q0
  go_enter func176,ntmps176
  go_wp2_with fail
  exact bodyPost_ret (v:=.tuple #[.agg #[.int .i64 0,.int .i64 0,.int .i64 0,.int .i64 0],.int .i64 1]) (by simp[results,results176,go_sem]) rfl ⟨rfl,(((Below.refl _ _).alloc (le_refl _) _).alloc Q1 _).alloc RD _⟩
 have I:¬(2:Int)<(ts.length:Int):=Q0
 go_enter func176,ntmps176
 go_wp2_with fail
 go_loopw [18] (λh wr=>∃d:Nat,d<=ts.length/\h=.int .i64 d/\(ts.take d).all (gQ v)=true/\aO g p v wr (bZ v (ts.take d) 0) (bZ v (ts.take d) 1)) (λh _=>ts.length-(intOf h).toNat)
 case atStart=>
  exact⟨0,zero_le _,rfl,rfl,(((((Below.refl _ _).alloc (le_refl _) _).alloc Q1 _).alloc RD _).alloc RD _),Q1,Re,Re,Re,Re,Re,Re,Re,Re,Sk,Sl,Sl,Sk⟩
 obtain⟨d,U,rfl,hall,A⟩:=hrel
 have s:=hid_ A
 obtain⟨hbr,Y,Q,ag,ah,ai,aj,ak,al,am,an,N,O,P⟩:=A
 by_cases hlt:d<ts.length
 .obtain⟨u,E,rfl,hbl',i⟩:=t.out.resolve_left Rt
  obtain⟨ht1,ht2⟩:=i d ts[d] Ru
  have W:wr.cell? ⟨u,E+d*2,none⟩=some (.bool ts[d].var):=RE
  have X:wr.cell? ⟨u,E+d*2+1,none⟩=some (.int .i64 ts[d].n):=RF
  have H:Hid ((ts.take (d+1)).all (gQ v)=gQ v ts[d]):=Rw
  have H2:Hid (gQ v ts[d]=false->g_ v ts=3):=λl=>by rw[g_,if_neg m,if_neg (by rw[qN hlt l];simp)]
  have HA:Hid (∀h,bZ v (ts.take (d+1)) h=if h=d then fJ v ts[d] else bZ v (ts.take d) h):=Cq hlt
  clear i hall ht1 ht2 t
  generalize ts[d]=r at*
  go_wp2_with fail
  refine mo_ (Cy r _) λL k=>?_
  obtain⟨S,T⟩:=fR k
  have aa:g.heap.size<wr.heap.size:=Q0
  have ac:g.heap.size+1<wr.heap.size:=Q0
  have ad:g.heap.size+1+1<wr.heap.size:=Q0
  have ab:g.heap.size<wr.heap.size+1:=Q0
  have Z:wr.heap.size+1<=L.heap.size:=by have:=k.size;simpa using this
  have af:g.heap.size+1+1+1<wr.heap.size+1:=Q0
  have hbw:=hbr.trans (((bH _ _).trans (k.mono Q1)).mono hbr.size)
  cases hok:db r
  .have H3:=hid_ (H2 (by simp[gQ,hok]))
   have H4:Hid (ja v p ts=⟨0,0,0,0⟩):=Sm
   clear H H2 HA
   go_wp2_with fail
   exact bodyPost_ret (v:=.tuple #[.agg #[.int .i64 0,.int .i64 0,.int .i64 0,.int .i64 0],.int .i64 3]) Sn rfl ⟨So,(((hbw.setCell RD _).setCell RD _).setCell RD _).setCell RD _⟩
  have B:=(bH _ _).trans (k.mono Q1)
  have HG1:=hid_ (s.out.c B)
  clear s B
  obtain⟨G,f⟩:=r
  have C:∃j:Int,fJ v ⟨G,f⟩=j:=⟨_,rfl⟩
  cases G
  .have D:bQ f 0 4=true:=hok
   have H3:Hid ((ts.take (d+1)).all (gQ v)=true):=by show _=_;rw[H.out,gQ,hok];exact D
   clear H H2 C
   rcases(show d=0\/d=1 by omega) with rfl|rfl
   .have HA0:Hid (bZ v (ts.take (0+1)) 0=f/\bZ v (ts.take (0+1)) 1=bZ v (ts.take 0) 1):=⟨Sp,Sq⟩
    exact afo
   have HA0:Hid (bZ v (ts.take (1+1)) 0=bZ v (ts.take 1) 0/\bZ v (ts.take (1+1)) 1=f):=⟨Sp,Sq⟩
   exact afn
  have D:0<=f/\f<=2:=by
   have:bQ f 0 2=true:=hok
   simpa[bQ] using this
  obtain⟨j,q⟩:=C
  rcases(show f=0\/f=1\/f=2 by omega) with rfl|rfl|rfl
  .obtain rfl:v.x=j:=q
   cases hw2:bQ v.x 0 4
   .exact ae8
   have H3:Hid ((ts.take (d+1)).all (gQ v)=true):=Su
   clear H H2
   rcases(show d=0\/d=1 by omega) with rfl|rfl
   .have HA0:Hid (bZ v (ts.take (0+1)) 0=v.x/\bZ v (ts.take (0+1)) 1=bZ v (ts.take 0) 1):=⟨Sp,Sq⟩
    exact afo
   have HA0:Hid (bZ v (ts.take (1+1)) 0=bZ v (ts.take 1) 0/\bZ v (ts.take (1+1)) 1=v.x):=⟨Sp,Sq⟩
   exact afn
  .obtain rfl:v.y=j:=q
   cases hw2:bQ v.y 0 4
   .exact ae8
   have H3:Hid ((ts.take (d+1)).all (gQ v)=true):=Su
   clear H H2
   rcases(show d=0\/d=1 by omega) with rfl|rfl
   .have HA0:Hid (bZ v (ts.take (0+1)) 0=v.y/\bZ v (ts.take (0+1)) 1=bZ v (ts.take 0) 1):=⟨Sp,Sq⟩
    exact afo
   have HA0:Hid (bZ v (ts.take (1+1)) 0=bZ v (ts.take 1) 0/\bZ v (ts.take (1+1)) 1=v.y):=⟨Sp,Sq⟩
   exact afn
  obtain rfl:v.z=j:=q
  cases hw2:bQ v.z 0 4
  .exact ae8
  have H3:Hid ((ts.take (d+1)).all (gQ v)=true):=Su
  clear H H2
  rcases(show d=0\/d=1 by omega) with rfl|rfl
  .have HA0:Hid (bZ v (ts.take (0+1)) 0=v.z/\bZ v (ts.take (0+1)) 1=bZ v (ts.take 0) 1):=⟨Sp,Sq⟩
   exact afo
  have HA0:Hid (bZ v (ts.take (1+1)) 0=bZ v (ts.take 1) 0/\bZ v (ts.take (1+1)) 1=v.z):=⟨Sp,Sq⟩
  exact afn
 have J:d=ts.length:=Q0
 have H3:Hid (g_ v ts=0):=by show _=_;rw[g_,if_neg m,if_pos (nQ hlt hall)]
 have H4:Hid (ja v p ts=⟨p,bZ v (ts.take d) 0,bZ v (ts.take d) 1,0⟩):=by show _=_;rw[ja,if_pos H3.out,List.take_of_length_le Q0];rfl
 clear J hall
 go_wp2_with fail
 exact bodyPost_ret (v:=.tuple #[.agg #[p,.int .i64 (bZ v (ts.take d) 0),.int .i64 (bZ v (ts.take d) 1),.int .i64 0],.int .i64 0]) Sn rfl ⟨So,(((hbr.setCell RD _).setCell RD _).setCell RD _).setCell RD _⟩
structure aU (w:World) (p:Int) (sv:Value) (v:ae) (wr:World) (x y:Int):Prop where
 below:Below w w wr
 size:w.heap.size+1+1+1<wr.heap.size
 c1:wr.cell? ⟨w,1,none⟩=some sv
 x0:wr.cell? ⟨w.heap.size+1,0,none⟩=some (.int .i64 v.x)
 x1:wr.cell? ⟨w.heap.size+1,1,none⟩=some (.int .i64 v.y)
 x2:wr.cell? ⟨w.heap.size+1,2,none⟩=some (.int .i64 v.z)
 z0:wr.cell? ⟨w.heap.size+1+1,0,none⟩=some (.int .i64 0)
 z1:wr.cell? ⟨w.heap.size+1+1,1,none⟩=some (.int .i64 0)
 z2:wr.cell? ⟨w.heap.size+1+1,2,none⟩=some (.int .i64 0)
 z3:wr.cell? ⟨w.heap.size+1+1,3,none⟩=some (.int .i64 0)
 zf:∀o,wr.frozen? ⟨w.heap.size+1+1,o,none⟩=false
 ap:wr.cell? ⟨w.heap.size+1+1+1,0,none⟩=some (.int .i64 p)
 a0:wr.cell? ⟨w.heap.size+1+1+1,1,none⟩=some (.int .i64 x)
 a1:wr.cell? ⟨w.heap.size+1+1+1,2,none⟩=some (.int .i64 y)
 a2:wr.cell? ⟨w.heap.size+1+1+1,3,none⟩=some (.int .i64 0)
 af:∀o,wr.frozen? ⟨w.heap.size+1+1+1,o,none⟩=false
theorem aU.a{b:World}{p:Int}{c d}{wr:World}{i f:Int}(h:aU b p c d wr i f)(n:Int):aU b p c d (wr.setCell ⟨b.heap.size+1+1+1,1,none⟩ n) n f:=
 ⟨h.below.setCell RD _,Sf,by rw[cb Q0,h.c1],Sc,Sd,Se,
  by rw[cb Q0,h.z0],Sg,Sh,Si,λg=>by rw[gI,h.zf],
  by rw[cP Q0,h.ap],fC h.a0,by rw[cP Q0,h.a1],by rw[cP Q0,h.a2],λg=>by rw[gI,h.af]⟩
theorem aU.b{a:World}{p:Int}{c d}{wr:World}{f i:Int}(h:aU a p c d wr f i)(n:Int):aU a p c d (wr.setCell ⟨a.heap.size+1+1+1,2,none⟩ n) f n:=
 ⟨h.below.setCell RD _,Sf,by rw[cb Q0,h.c1],Sc,Sd,Se,
  by rw[cb Q0,h.z0],Sg,Sh,Si,λg=>by rw[gI,h.zf],
  by rw[cP Q0,h.ap],by rw[cP Q0,h.a0],fC h.a1,by rw[cP Q0,h.a2],λg=>by rw[gI,h.af]⟩
theorem Kt{c b}(a:g_ c b=0):b.length<=2/\b.all (gQ c)=true:=by
 unfold g_ at a;split at a
 .cases a
 split at a
 .exact⟨Q0,Q7⟩
 cases a
theorem Sv(h:p:=by rw[HA0.out.1,HA0.out.2];exact HG.out.a _):p:=h
theorem Sw(h:p:=by rw[HA0.out.1,HA0.out.2];exact HG.out.b _):p:=h
theorem aem(h:p:=by
 clear HA
 go_wp2_with fail
 go_roundw
 case rel=>exact⟨1+1,Q0,rfl,Sw⟩
 exact adT):p:=h
theorem aen(h:p:=by
 clear HA
 go_wp2_with fail
 go_roundw
 case rel=>exact⟨0+1,Q0,rfl,Sv⟩
 exact adT):p:=h
theorem xC(j:World)(w:Value)(p:Int)(a:List Tm)(c:ae)(E:cr j w a)(u:g_ c a=0):
 Calls prog 143 #[.agg #[p,w],.agg #[c.x,c.y,c.z]] j λe H=>e=.returned (.agg #[p,.int .i64 (bZ c a 0),.int .i64 (bZ c a 1),.int .i64 0])/\Below j j H:=by
 obtain⟨C,D,rfl,Q,i⟩:=E
 obtain⟨O,h⟩:=Kt u
 have q:=hid_ i
 have m:=hid_ h
 clear i h u
 go_enter func143,ntmps143
 go_wp2_with fail
 go_loopw [6] (λg wr=>∃d:Nat,d<=a.length/\g=.int .i64 d/\aU j p (.slice C a D) c wr (bZ c (a.take d) 0) (bZ c (a.take d) 1)) (λg _=>a.length-(intOf g).toNat)
 case atStart=>
  exact⟨0,zero_le _,rfl,(((((Below.refl _ _).alloc (le_refl _) _).alloc Q1 _).alloc RD _).alloc RD _),Q1,Re,Re,Re,Re,Re,Re,Re,Re,Sk,Re,Sl,Sl,Re,Sk⟩
 obtain⟨d,P,rfl,t⟩:=hrel
 have HG:=hid_ t
 obtain⟨hbr,R,N,S,T,U,V,W,X,Y,Z,M,I,J,K,L⟩:=t
 by_cases hlt:d<a.length
 .obtain⟨s,v,rfl,hbl',i⟩:=q.out.resolve_left Rt
  obtain⟨ht1,ht2⟩:=i d a[d] Ru
  have k:wr.cell? ⟨s,v+d*2,none⟩=some (.bool a[d].var):=RE
  have l:wr.cell? ⟨s,v+d*2+1,none⟩=some (.int .i64 a[d].n):=RF
  have h:=List.all_eq_true.1 m _ (getElem_mem hlt)
  have HA:Hid (∀g,bZ c (a.take (d+1)) g=if g=d then fJ c a[d] else bZ c (a.take d) g):=Cq hlt
  clear i ht1 ht2 q m
  generalize a[d]=G at*
  obtain⟨A,f⟩:=G
  have r:db ⟨A,f⟩=true:=by simp only[gQ,and_eq_true] at h;exact h.1
  clear h
  cases A
  .clear r
   rcases(show d=0\/d=1 by omega) with rfl|rfl
   .simp only[zero_mul,add_zero] at k l
    have HA0:Hid (bZ c (a.take (0+1)) 0=f/\bZ c (a.take (0+1)) 1=bZ c (a.take 0) 1):=⟨Sp,Sq⟩
    exact aen
   have HA0:Hid (bZ c (a.take (1+1)) 0=bZ c (a.take 1) 0/\bZ c (a.take (1+1)) 1=f):=⟨Sp,Sq⟩
   exact aem
  have F:0<=f/\f<=2:=by
   have:bQ f 0 2=true:=r
   simpa[bQ] using this
  clear r
  rcases(show f=0\/f=1\/f=2 by omega) with rfl|rfl|rfl
  all_goals clear F
  .rcases(show d=0\/d=1 by omega) with rfl|rfl
   .simp only[zero_mul,add_zero] at k l
    have HA0:Hid (bZ c (a.take (0+1)) 0=c.x/\bZ c (a.take (0+1)) 1=bZ c (a.take 0) 1):=⟨Sp,Sq⟩
    exact aen
   have HA0:Hid (bZ c (a.take (1+1)) 0=bZ c (a.take 1) 0/\bZ c (a.take (1+1)) 1=c.x):=⟨Sp,Sq⟩
   exact aem
  .rcases(show d=0\/d=1 by omega) with rfl|rfl
   .simp only[zero_mul,add_zero] at k l
    have HA0:Hid (bZ c (a.take (0+1)) 0=c.y/\bZ c (a.take (0+1)) 1=bZ c (a.take 0) 1):=⟨Sp,Sq⟩
    exact aen
   have HA0:Hid (bZ c (a.take (1+1)) 0=bZ c (a.take 1) 0/\bZ c (a.take (1+1)) 1=c.y):=⟨Sp,Sq⟩
   exact aem
  rcases(show d=0\/d=1 by omega) with rfl|rfl
  .simp only[zero_mul,add_zero] at k l
   have HA0:Hid (bZ c (a.take (0+1)) 0=c.z/\bZ c (a.take (0+1)) 1=bZ c (a.take 0) 1):=⟨Sp,Sq⟩
   exact aen
  have HA0:Hid (bZ c (a.take (1+1)) 0=bZ c (a.take 1) 0/\bZ c (a.take (1+1)) 1=c.z):=⟨Sp,Sq⟩
  exact aem
 have B:Hid (a.take d=a):=List.take_of_length_le Q0
 clear q m
 go_wp2_with fail
 exact bodyPost_ret (v:=.agg #[p,.int .i64 (bZ c (a.take d) 0),.int .i64 (bZ c (a.take d) 1),.int .i64 0]) (by simp[results,results143,go_sem, *]) rfl ⟨by rw[B.out],(((hbr.setCell RD _).setCell RD _).setCell RD _).setCell RD _⟩
def cw(ps:List Prd)(f:Fct):Bool:=gl ps f.pred&&(bQ f.a 0 4&&(bQ f.b 0 4&&((decide (1<=dN ps f.pred)||f.a==0)&&((decide (2<=dN ps f.pred)||f.b==0)&&cp (bJ ps f.pred) f.val==0))))
theorem Sx(h:p:=by simpa using g1):p:=h
theorem Sy(h:p:=by simpa using g2):p:=h
theorem afc(h:p:=by
 go_enter func191,ntmps191
 go_wp2_with(first|(go_at_call 87;refine mq_ (et _ _ _ _) ?_)|(go_at_call 231;refine mq_ (wF _ _ _) ?_))
 go_ret
 exact⟨rfl,(bH _ _).alloc Q1 _⟩):p:=h
theorem afq(h:p:=by
 clear e h1 hx
 go_enter func191,ntmps191
 go_wp2_with(first|(go_at_call 87;refine mq_ (et _ _ _ _) ?_)|(go_at_call 231;refine mq_ (wF _ _ _) ?_))
 exact ad2):p:=h
theorem afA(h:p:=by
 rw[e]
 have h1':bQ p 0 ((ps.length:Int)-1)=true:=h1
 exact afq):p:=h
theorem rI(i:World)(q ps)(p a b d:Int)(s:bR i q ps):Calls prog 191 #[q,.agg #[p,a,b,d]] i λe u=>e=.returned (.bool (cw ps ⟨p,a,b,d⟩))/\Below i i u:=by
 obtain⟨E,w,rfl,C,hx⟩:=s;cases h1:gl ps p
 .have e:cw ps ⟨p,a,b,d⟩=false:=by simp[cw,h1]
  rw[e];have h1':bQ p 0 ((ps.length:Int)-1)=false:=h1;exact afq
 cases l:bQ a 0 4
 .have e:cw ps ⟨p,a,b,d⟩=false:=by simp[cw,l]
  exact afA
 cases m:bQ b 0 4
 .have e:cw ps ⟨p,a,b,d⟩=false:=by simp[cw,m]
  exact afA
 have h1':bQ p 0 ((ps.length:Int)-1)=true:=h1;obtain⟨c,hk,rfl⟩:=fd.1 h1;obtain⟨v,D,rfl,y,hx⟩:=hx.resolve_left Rz;obtain⟨z,A,B⟩:=hx c ps[c] RA;have n:dN ps (c:Int)=ps[c].arity:=by simp[dN,hk]
 have o:bJ ps (c:Int)=ps[c].kind:=by simp[bJ,hk]
 have e:cw ps ⟨(c:Int),a,b,d⟩=((decide (1<=ps[c].arity)||a==0)&&((decide (2<=ps[c].arity)||b==0)&&cp ps[c].kind d==0)):=by simp only[cw,h1,l,m,n,o,Bool.true_and]
 rw[e];clear e n o hx h1;generalize ps[c]=t at*;obtain⟨F,h,j⟩:=t;by_cases g1:1<=h
 .have f:decide (1<=h)=true:=Sx;by_cases g2:2<=h
  .have g:decide (2<=h)=true:=Sy;cases k:(cp j d==0)
   all_goals
    simp only[f,g,Bool.true_or,Bool.true_and];go_enter func191,ntmps191;go_wp2_with(first|(go_at_call 87;refine mq_ (et _ _ _ _) ?_)|(go_at_call 231;refine mq_ (wF _ _ _) ?_));go_ret;exact⟨rfl,(bH _ _).alloc Q1 _⟩
  have g:decide (2<=h)=false:=Sy;cases r:(b==0)
  .simp only[f,g,Bool.true_or,Bool.true_and,Bool.false_or,Bool.false_and];exact afc
  cases k:(cp j d==0)
  all_goals
   simp only[f,g,Bool.true_or,Bool.true_and,Bool.false_or];go_enter func191,ntmps191;go_wp2_with(first|(go_at_call 87;refine mq_ (et _ _ _ _) ?_)|(go_at_call 231;refine mq_ (wF _ _ _) ?_));go_ret;exact⟨rfl,(bH _ _).alloc Q1 _⟩
 have f:decide (1<=h)=false:=Sx;have g:decide (2<=h)=false:=RD;cases x:(a==0)
 .simp only[f,Bool.false_or,Bool.false_and];exact afc
 cases r:(b==0)
 .simp only[f,g,Bool.true_and,Bool.false_or,Bool.false_and];exact afc
 cases k:(cp j d==0)
 all_goals
  simp only[f,g,Bool.true_and,Bool.false_or];go_enter func191,ntmps191;go_wp2_with(first|(go_at_call 87;refine mq_ (et _ _ _ _) ?_)|(go_at_call 231;refine mq_ (wF _ _ _) ?_));go_ret;exact⟨rfl,(bH _ _).alloc Q1 _⟩
def mM(r:Rul)(j:Nat):Bool:=(List.range j).any fun(v:Nat)=>eW r (v:Int)
theorem Kf(a):mM a 3=(eW a 0||(eW a 1||eW a 2)):=by simp[mM,List.range_succ]
theorem Kh(b a):mM b (a+1)=(mM b a||eW b (a:Int)):=by simp[mM,List.range_succ]
theorem Kg{a}{b:Nat}(d:b<3)(c:eW a (b:Int)=true):(eW a 0||(eW a 1||eW a 2))=true:=by
 rcases(show b=0\/b=1\/b=2 by omega) with rfl|rfl|rfl
 .rw[show eW a 0=true from c];rfl
 .rw[show eW a 1=true from c];simp
 rw[show eW a 2=true from c];simp
theorem TC(h:p:=by rw[hb1.cell (p:=⟨w,4,none⟩) (by simp)];simp[go_sem]):p:=h
theorem TD(h:p:=by simpa using hn):p:=h
theorem TE(h:p:=by rw[hbr.cell (p:=⟨w,0,none⟩) (by simp)];simp[go_sem]):p:=h
theorem TG(h:p:=by rw[hbr.cell (p:=⟨w,1,none⟩) (by simp)];simp[go_sem]):p:=h
theorem TI(h:p:=by rw[hbr.cell (p:=⟨w,2,none⟩) (by simp)];simp[go_sem]):p:=h
theorem TJ(h:p:=by rw[hbr.cell (p:=⟨w,3,none⟩) (by simp)];simp[go_sem]):p:=h
theorem ae7(h:p:=by
 go_wp2_with(go_at_call 87;refine mq_ (et _ _ _ _) ?_)
 go_ret
 exact⟨eJ HE.out.symm,hbw⟩):p:=h
theorem Zd(h:p:=by
 go_wp2_with fail
 go_ret
 exact⟨rfl,cU (bH _ _) hb1⟩):p:=h
theorem afs(h:p:=by
 cases hw2:bQ r.n 0 15
 .have HE:=hid_ (HV2.out.trans (if_pos (show r.n<0\/15<r.n by simp[bQ] at hw2;omega)))
  exact ae7
 have HE:=hid_ (HV2.out.trans (if_neg (show¬(r.n<0\/15<r.n) by simp[bQ] at hw2;omega)))
 exact ae7):p:=h
theorem afw(h:p:=by
 have HE:=hid_ (HV2.out.trans (if_pos (show r.n<0\/15<r.n by simp[bQ] at hw2;omega)))
 exact ae7):p:=h
theorem Kl(w:World)(aW c r V aE)(aQ:bR w aW c)(aM:cr w V r.head.args)(aJ:dC w aE r.body):Calls prog 90 #[aW,.agg #[r.head.pred,V,r.src,r.n,aE]] w λe bc=>e=.returned (.int .i64 (cx c r))/\Below w w bc:=by
 have Z:=lp_ aQ;have X:=lt_ aM;have aZ:=lb_ aJ;obtain⟨I,J,rfl,_⟩:=aM;obtain⟨bn,bo,rfl,bk,A⟩:=aQ;obtain⟨v,x,rfl,bi,o⟩:=aJ;have i:=hid_ o;have k:=hid_ A;clear o A;by_cases h1:cf c r.head=0
 .by_cases ad:3<r.body.length
  .rw[CJ h1 ad];have aH:cf c ⟨r.head.pred,r.head.args⟩=0:=h1;have a3:(3:Int)<(r.body.length:Int):=Q0;clear h1 i k;go_enter func90,ntmps90;go_wp2_with fail;refine mo_ (p8 _ _ _ c _ _ (Z _ RK) (X _ RK)) λW hb1=>?_;have aF:W.cell? ⟨w,4,none⟩=some (.slice v r.body x):=TC;exact Zd
  have aH:cf c ⟨r.head.pred,r.head.args⟩=0:=h1;have s:=hid_ h1;have a3:¬(3:Int)<(r.body.length:Int):=Q0;clear h1;go_enter func90,ntmps90;go_wp2_with fail;refine mo_ (p8 _ _ _ c _ _ (Z _ RK) (X _ RK)) λW hb1=>?_;have aF:W.cell? ⟨w,4,none⟩=some (.slice v r.body x):=TC;have aA:Hid (Below (w.heap.size+1) (w.alloc (.cells #[r.head.pred,.slice I r.head.args J,r.src,r.n,.slice v r.body x] 58)) W):=hb1.mono Q1;clear hb1;go_wp2_with fail;clear aF;go_loopw [6] (λq wr=>∃f:Nat,f<=r.body.length/\q=.int .i64 f/\(r.body.take f).all (g8 c)=true/\Below (w.heap.size+1) (w.alloc (.cells #[r.head.pred,.slice I r.head.args J,r.src,r.n,.slice v r.body x] 58)) wr) (λq _=>r.body.length-(intOf q).toNat)
  case atStart=>exact⟨0,zero_le _,rfl,rfl,aA.out⟩
  clear aA;obtain⟨f,a6,rfl,hall,hbr⟩:=hrel;have hbw:=(bH _ _).trans (hbr.mono Q0);have N:wr.cell? ⟨w,4,none⟩=some (.slice v r.body x):=RG;by_cases hlt:f<r.body.length
  .obtain⟨Q,aV,rfl,S,o⟩:=i.out.resolve_left RH;obtain⟨ah,aw,ax,ay,aS,U⟩:=(oL.b w wr Q _ _ hbw S (o f r.body[f] Ru)).a;have aj:Hid ((r.body.take (f+1)).all (g8 c)=g8 c r.body[f]):=Rw;have ak:=hid_ (λhn=>CG s ad hlt hall hn);clear o hall i k;generalize r.body[f]=h at*;obtain⟨bm,aU,ai⟩:=h;have ao:Hid (cr wr (.slice ax ai ay) ai):=U;clear U;go_wp2_with fail;refine mo_ (p8 _ _ _ c _ _ (Z _ hbw) ao.out) λbd B=>?_;by_cases hn:cf c ⟨aU,ai⟩=0
   .have al:Hid ((r.body.take (f+1)).all (g8 c)=true):=by show _=_;rw[aj.out,g8];simpa using hn
    clear aj ak;go_wp2_with fail;go_roundw
    case rel=>exact⟨f+1,Q0,Rv,al.out,hbr.trans (B.mono RI)⟩
    exact adT
   have al:=hid_ (ak hn);have bj:(cf c ⟨aU,ai⟩ != 0)=true:=TD;clear aj ak hn;go_wp2_with fail;go_ret;exact⟨eJ al.out.symm,hbw.trans (B.mono hbw.size)⟩
  have ae:=nQ hlt hall;have aI:=λh a8=>gP (by have:=List.all_eq_true.1 ae h a8;simpa[g8] using this);have aY:=hid_ aI;have am:=hid_ λ(d:Nat)(V:d<3)(R:eW r (d:Int)=true)=>CH s ad ae (Kg V R);have ap:=hid_ (λR=>CK s ad ae (by rw[<-Kf];exact R));have aB:=hid_ hbr;clear hall ae aI hbr hbw;go_wp2_with fail;clear N hlt a6;go_loopw [8] (λq wr=>∃f:Nat,f<=3/\q=.int .i64 f/\mM r f=false/\Below (w.heap.size+1) (w.alloc (.cells #[r.head.pred,.slice I r.head.args J,r.src,r.n,.slice v r.body x] 58)) wr) (λq _=>3-(intOf q).toNat)
  case atStart=>exact⟨0,zero_le _,rfl,rfl,aB.out⟩
  clear aB;obtain⟨d,V,rfl,af,hbr⟩:=hrel;have hbw:=(bH _ _).trans (hbr.mono Q0);have D:wr.cell? w=some (.int .i64 r.head.pred):=TE;have L:wr.cell? ⟨w,1,none⟩=some (.slice I r.head.args J):=TG;have E:wr.cell? ⟨w,2,none⟩=some (.int .i64 r.src):=TI;have M:wr.cell? ⟨w,3,none⟩=some (.int .i64 r.n):=TJ;have N:wr.cell? ⟨w,4,none⟩=some (.slice v r.body x):=RG;have bl:w.heap.size<wr.heap.size:=RI;by_cases hlt:d<3
  .have G:Hid (eW r (d:Int)=false->mM r (d+1)=false):=λR=>by rw[Kh,af,R];rfl
   have O:=hid_ (am d hlt);clear af am ap;go_wp2_with fail;refine mo_ (rJ _ _ _ _ r.head.args (X _ hbw)) λbd aK=>?_;have aC:=hid_ (hbr.trans (aK.mono RI));clear D L E M N aK;go_wp2_with fail;go_loopw [9,10] (λa9 q wr=>∃g:Nat,g<=r.body.length/\q=.int .i64 g/\a9=.bool (ff r.head.args (d:Int)||(r.body.take g).any λh=>ff h.atom.args (d:Int))/\Below (w.heap.size+1) (w.alloc (.cells #[r.head.pred,.slice I r.head.args J,r.src,r.n,.slice v r.body x] 58)) wr) (λ_ q _=>r.body.length-(intOf q).toNat)
   case atStart=>exact⟨0,zero_le _,rfl,Q1,aC.out⟩
   clear aC hbw hbr;obtain⟨g,hk,rfl,rfl,hbr⟩:=hrel;have hbw:=(bH _ _).trans (hbr.mono Q0);have D:wr.cell? w=some (.int .i64 r.head.pred):=TE;have L:wr.cell? ⟨w,1,none⟩=some (.slice I r.head.args J):=TG;have E:wr.cell? ⟨w,2,none⟩=some (.int .i64 r.src):=TI;have M:wr.cell? ⟨w,3,none⟩=some (.int .i64 r.n):=TJ;have N:wr.cell? ⟨w,4,none⟩=some (.slice v r.body x):=RG;by_cases ag:g<r.body.length
   .obtain⟨Q,aV,rfl,S,o⟩:=i.out.resolve_left (by intro e;rw[e] at ag;simp at ag);obtain⟨ah,aw,ax,ay,aS,U⟩:=(oL.b w wr Q _ _ hbw S (o g r.body[g] (by simp[ag]))).a
    have aD:Hid ((ff r.head.args (d:Int)||(r.body.take (g+1)).any λh=>ff h.atom.args (d:Int))=((ff r.head.args (d:Int)||(r.body.take g).any λh=>ff h.atom.args (d:Int))||ff r.body[g].atom.args (d:Int))):=by
     show _=_;rw[j5 ag,Bool.or_assoc]
    have ao:=hid_ U;clear o U i k D L E M G O;generalize r.body[g]=h at*;generalize(ff r.head.args (d:Int)||(r.body.take g).any λh=>ff h.atom.args (d:Int))=aX at*;cases aX
    .go_wp2_with fail;refine mo_ (rJ _ _ _ _ h.atom.args ao.out) λbe B=>?_;go_wp2_with fail;go_roundw
     case rel=>exact⟨g+1,Q0,Rv,by rw[aD.out,Bool.false_or],hbr.trans (B.mono RI)⟩
     exact adT
    go_wp2_with fail;go_roundw
    case rel=>exact⟨g+1,Q0,Rv,by rw[aD.out,Bool.true_or],hbr⟩
    exact adT
   have az:Hid ((ff r.head.args (d:Int)||(r.body.take g).any λh=>ff h.atom.args (d:Int))=dj r (d:Int)):=by show _=_;rw[List.take_of_length_le Q0];rfl
   have F:Hid (eW r (d:Int)=(dj r (d:Int)&& !jQ r (d:Int))):=rfl;rw[az.out];clear az k i;cases ar:dj r (d:Int)
   .have an:=hid_ (G (by rw[F.out,ar];rfl));clear G O F D L E M;go_wp2_with fail;go_roundw
    case rel=>exact⟨d+1,Q0,Rv,an.out,hbr⟩
    exact adT
   go_wp2_with fail;refine mo_ (Kk _ r _ _ _ (aZ _ hbw)) λbe B=>?_;cases aL:jQ r (d:Int)
   .have t:=hid_ (O (by rw[F.out,ar,aL];rfl));clear G O F D L E M N;go_wp2_with fail;go_ret;exact⟨eJ t.out.symm,hbw.trans (B.mono hbw.size)⟩
   have an:=hid_ (G (by rw[F.out,ar,aL];rfl));clear G O F D L E M N;go_wp2_with fail;go_roundw
   case rel=>exact⟨d+1,Q0,Rv,an.out,hbr.trans (B.mono RI)⟩
   exact adT
  have t:=hid_ (ap (by obtain rfl:d=3:=Q0;exact af));clear am ap af;obtain⟨u,hk,z⟩:=fd.1 (gP s.out).1;obtain⟨aq,ba,rfl,a4,A⟩:=k.out.resolve_left Rz;obtain⟨_,_,bg⟩:=py.a w wr aq _ _ hbw a4 (A u c[u] RA);have m:bJ c r.head.pred=c[u].kind:=by rw[z];simp[bJ,hk]
  rw[z] at D;clear A;by_cases l:r.src< -1\/(r.body.length:Int)<=r.src
  .have HE:=hid_ (t.out.trans (CM l));have aT:bQ r.src (-1) ((r.body.length:Int)-1)=false:=Rs;clear l i k m z s;exact ae7
  have aT:bQ r.src (-1) ((r.body.length:Int)-1)=true:=Rs;by_cases h0:c[u].kind=0
  .have a2:(c[u].kind==0)=true:=by simp[h0]
   by_cases j:r.src= -1
   .have ac:(r.src != -1)=false:=by simp[j]
    have bf:decide (0<=r.src)=false:=RD;by_cases H:r.n=0
    .have HE:=hid_ (t.out.trans (by rw[qe l (λ_=>⟨j,H⟩) (λab=>Q0),if_neg Q0]));have a1:(r.n != 0)=false:=by simp[H]
     have hw2:bQ r.n 0 15=true:=Rs;clear l i k m z s h0 j H;exact ae7
    have HE:=hid_ (t.out.trans (uA l (m.trans h0) (.inr H)));have a1:(r.n != 0)=true:=by simpa using H
    clear l i k m z s h0 j H;exact ae7
   have HE:=hid_ (t.out.trans (uA l (m.trans h0) (.inl j)));have ac:(r.src != -1)=true:=by simpa using j
   clear l i k m z s h0 j;exact ae7
  have a2:(c[u].kind==0)=false:=Q8;by_cases j:0<=r.src
  .have ac:decide (0<=r.src)=true:=by simpa using j
   obtain⟨f,au⟩:∃f:Nat,r.src=(f:Int):=⟨r.src.toNat,Q0⟩;have T:f<r.body.length:=Q0;obtain⟨Q,aV,rfl,S,o⟩:=i.out.resolve_left (by intro e;rw[e] at T;simp at T);obtain⟨ah,aw,ax,ay,aS,_⟩:=(oL.b w wr Q _ _ hbw S (o f r.body[f] (by simp[T]))).a;obtain⟨C,aR,av⟩:=fd.1 (aY r.body[f] (getElem_mem T)).1;obtain⟨a0,bb,aG,a5,A⟩:=k.out.resolve_left Rz;obtain⟨rfl,rfl⟩:aq=a0/\ba=bb:=by simpa using aG
   obtain⟨_,_,bh⟩:=py.a w wr aq _ _ hbw a5 (A C c[C] (by simp[aR]));have aO:bJ c r.body[f].atom.pred=c[C].kind:=by rw[av];simp[bJ,aR]
   have aN:k9 c r=(!r.body[f].neg&&c[C].kind==c[u].kind):=by simp[k9,au,T,m,aO]
   rw[av] at aw;have P:=hid_ (λab=>CL l (by rw[m];exact h0) j ab);have aa:=hid_ (λab=>qe l (λe=>absurd (m.symm.trans e) h0) (λ_=>ab));have y:=hid_ aN;have Y:=hid_ au;rw[Y.out] at E aT ac;clear o A m z aO aN au l j h0 i k s av aG;cases aP:r.body[f].neg
   .rw[aP] at ah y;cases K:(c[C].kind==c[u].kind)
    .have HE:=hid_ (t.out.trans (P (by rw[y.out,K];rfl)));have a7:(c[C].kind != c[u].kind)=true:=by simpa using K
     clear P aa y Y K;exact ae7
    have HV2:=hid_ (t.out.trans (aa (by rw[y.out,K];rfl)));have a7:(c[C].kind != c[u].kind)=false:=by simpa using K
    clear P aa y Y K;exact afs
   rw[aP] at ah y;have HE:=hid_ (t.out.trans (P (by rw[y.out];rfl)));clear P aa y Y;exact ae7
  have ac:decide (0<=r.src)=false:=by simpa using j
  have HV2:=hid_ (t.out.trans (qe l (λe=>absurd (m.symm.trans e) h0) (λe=>absurd e j)));clear l i k m z s h0 j;exact afs
 rw[CI h1];have aH:(cf c ⟨r.head.pred,r.head.args⟩ != 0)=true:=Q6;clear h1 i k;go_enter func90,ntmps90;go_wp2_with fail;refine mo_ (p8 _ _ _ c _ _ (Z _ RK) (X _ RK)) λW hb1=>?_;exact Zd
