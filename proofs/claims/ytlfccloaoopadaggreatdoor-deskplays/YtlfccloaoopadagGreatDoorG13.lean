import Derived.Deep.RegionHeld3
import Derived.Test.YtlfccloaoopadagGreatDoorG6
import Derived.Test.YtlfccloaoopadagGreatDoorG8
open Go.Proofs.Tryz
set_option maxRecDepth 100000
set_option maxHeartbeats 0
open List (all_eq_true any_cons any_eq_true getElem_mem mem_cons mem_range)
open Nat (le_refl zero_le)
open Bool (and_eq_true)
namespace Go.Proofs.YtlfccloaoopadagGreatDoor
open Go.ChangeShapes Go.WideShapes Go.ChangeAt Go.RowKit
variable{p:Prop}
def eF(x:Fct):Prop:=0<=x.pred/\x.pred<=1000/\0<=x.a/\x.a<=4/\0<=x.b/\x.b<=4
theorem mF(p a b c)(d:World)(l:eF ⟨p,a,b,c⟩):Calls prog 145 #[.agg #[p,a,b,c]] d λe m=>e=.returned (.int .i64 (bL ⟨p,a,b,c⟩))/\Below d d m:=by
 obtain⟨f,g,h,i,j,k⟩:=l;have f:0<=p:=f;have g:p<=1000:=g;have h:0<=a:=h;have i:a<=4:=i;have j:0<=b:=j;have k:b<=4:=k;have e:bL ⟨p,a,b,c⟩=(p*5+a)*5+b:=rfl;rw[e];go_enter func145,ntmps145;go_wp2;exact ad2
theorem ly{h:World}{j f}(k:bO h j f){b}(i:b<f.length):∃a c d,j=.slice (some ⟨a,c,none⟩) f d/\a<h.heap.size/\m7 h a (c+b*4) f[b]:=by
 obtain⟨m,d,rfl,n,g⟩:=k;rcases g with rfl|⟨a,c,rfl,l,g⟩
 .simp at i
 exact⟨a,c,d,rfl,l,g b f[b] (by simp[i])⟩
def eK(f:List Fct)(pl:Int):Int:=(cd f pl).getD 0
theorem Gb{f:List Fct}{a:Nat}(h:a<f.length)(c:Int)(b:cd (f.take a) c=none):cd (f.take (a+1)) c=if bL f[a]=c then some f[a].val else none:=by
 induction f generalizing a with
 |nil=>simp at h
 |cons d f ih=>
  cases a with
  |zero=>simp[eL,qT]
  |succ a=>
   simp only[List.take_succ_cons,eL] at b⊢;by_cases e:bL d=c
   .rw[if_pos e] at b;cases b
   rw[if_neg e] at b;rw[if_neg e,ih Q2 b];rfl
theorem Ga{f a}(h:a<f.length)(c)(b:cd (f.take a) c=none)(d:bL f[a]=c):cd f c=some f[a].val:=by
 induction f generalizing a with
 |nil=>simp at h
 |cons g f ih=>
  cases a with
  |zero=>rw[eL,if_pos (show bL g=c from d)];rfl
  |succ a=>
   simp only[List.take_succ_cons,eL] at b;by_cases e:bL g=c
   .rw[if_pos e] at b;cases b
   rw[if_neg e] at b;rw[eL,if_neg e];exact ih Q2 b d
theorem SB(h:p:=by have:=hbr.size;simp at this;omega):p:=h
theorem SC(h:p:=by simpa using hv):p:=h
theorem SD(h:p:=by simpa using hpe):p:=h
theorem SF(h:p:=by first|exact Below.refl _ _|exact(Below.refl _ _).drew|exact hk|exact hk.drew):p:=h
theorem vS(c:World)(H f p g h j)(J:bO c H f)(K:∀E∈f,eF E)(L:eF ⟨p,g,h,j⟩):Calls prog 99 #[H,.agg #[p,g,h,j]] c λe b=>e=.returned (.tuple #[.int .i64 (eK f (bL ⟨p,g,h,j⟩)),.bool (cd f (bL ⟨p,g,h,j⟩)).isSome])/\Below c c b:=by
 have y:=hid_ J;obtain⟨V,W,rfl,af,_⟩:=J;have A:=hid_ K;have G:=hid_ L;clear K L;go_enter func99,ntmps99;go_wp2_with fail;go_loopw [6] (λC wr=>∃d:Nat,d<=f.length/\C=.int .i64 d/\cd (f.take d) (bL ⟨p,g,h,j⟩)=none/\Below (c.heap.size+1) (c.alloc (.cells #[p,g,h,j] 93)) wr) (λC _=>f.length-(intOf C).toNat)
 case atStart=>exact⟨0,zero_le _,rfl,rfl,Below.refl _ _⟩
 obtain⟨d,ac,rfl,m,hbr⟩:=hrel;have s:=(bH _ _).trans (hbr.mono Q0);by_cases t:d<f.length
 .have Q:wr.cell? c=some (.int .i64 p):=by rw[hbr.cell (p:=⟨c,0,none⟩) Q1];simp[go_sem]
  have R:wr.cell? ⟨c,1,none⟩=some (.int .i64 g):=by rw[hbr.cell (p:=⟨c,1,none⟩) Q1];simp[go_sem]
  have S:wr.cell? ⟨c,2,none⟩=some (.int .i64 h):=by rw[hbr.cell (p:=⟨c,2,none⟩) Q1];simp[go_sem]
  have T:wr.cell? ⟨c,3,none⟩=some (.int .i64 j):=by rw[hbr.cell (p:=⟨c,3,none⟩) Q1];simp[go_sem]
  have u:c.heap.size<wr.heap.size:=SB;obtain⟨i,k,U,hv,Y,I⟩:=ly y t;obtain⟨rfl,rfl⟩:V=some ⟨i,k,none⟩/\W=U:=SC;obtain⟨Z,aa,ab,M⟩:=m7.a c wr i _ _ s Y I;have o:i<wr.heap.size:=Q0;have F:=hid_ (A f[d] (getElem_mem t));have B:=hid_ (Ga t _ m);have z:Hid (bL f[d]≠bL ⟨p,g,h,j⟩->cd (f.take (d+1)) (bL ⟨p,g,h,j⟩)=none):=λX=>by rw[Gb t _ m,if_neg X]
  have ae:(d:Int)<(f.length:Int):=Q0;have ad:(0:Int)<=(d:Int):=Q0;clear I m y A hv;generalize f[d]=E at*;obtain⟨x,v,w,q⟩:=E;have r:Hid (∀b,Below wr wr b->(λb=>Below wr wr b/\b.cell? c=some (.int .i64 p)/\b.cell? ⟨c,1,none⟩=some (.int .i64 g)/\b.cell? ⟨c,2,none⟩=some (.int .i64 h)/\b.cell? ⟨c,3,none⟩=some (.int .i64 j)/\ b.cell? ⟨i,k+d*4,none⟩=some (.int .i64 x)/\b.cell? ⟨i,k+d*4+1,none⟩=some (.int .i64 v)/\b.cell? ⟨i,k+d*4+2,none⟩=some (.int .i64 w)/\b.cell? ⟨i,k+d*4+3,none⟩=some (.int .i64 q)) b):=λb l=>⟨l,(bF l u).trans Q,(bF l u).trans R,(bF l u).trans S,(bF l u).trans T,(bF l o).trans Z,(bF l o).trans aa,(bF l o).trans ab,(bF l o).trans M⟩;cases hpe:(bL ⟨x,v,w,q⟩==bL ⟨p,g,h,j⟩)
  .have O:=hid_ (z SD);clear z B;go_wp2_with fail
   go_region_held3 (λb=>Below wr wr b/\b.cell? c=some (.int .i64 p)/\b.cell? ⟨c,1,none⟩=some (.int .i64 g)/\b.cell? ⟨c,2,none⟩=some (.int .i64 h)/\b.cell? ⟨c,3,none⟩=some (.int .i64 j)/\
    b.cell? ⟨i,k+d*4,none⟩=some (.int .i64 x)/\b.cell? ⟨i,k+d*4+1,none⟩=some (.int .i64 v)/\b.cell? ⟨i,k+d*4+2,none⟩=some (.int .i64 w)/\b.cell? ⟨i,k+d*4+3,none⟩=some (.int .i64 q))
    ((refine r _ ?_;first|exact Below.refl _ _|exact(Below.refl _ _).drew|exact hk|exact hk.drew))
    (first
     |(go_at_call 145;refine mo_ (mF _ _ _ _ _ (by first|exact F.out|exact G.out)) λD n=>?_;have hk:Below wr wr D:=Below.trans SF (n.mono (by first|exact le_refl _|exact hk.size));clear n))
   clear r;go_wp2_with fail;go_roundw
   case rel=>exact⟨d+1,Q0,Rv,O.out,hbr.trans (hk.mono SB)⟩
   simp[intOf];omega
  have P:Hid (cd f (bL ⟨p,g,h,j⟩)=some q):=B SD;clear z B;go_wp2_with fail
  go_region_held3 (λb=>Below wr wr b/\b.cell? c=some (.int .i64 p)/\b.cell? ⟨c,1,none⟩=some (.int .i64 g)/\b.cell? ⟨c,2,none⟩=some (.int .i64 h)/\b.cell? ⟨c,3,none⟩=some (.int .i64 j)/\
   b.cell? ⟨i,k+d*4,none⟩=some (.int .i64 x)/\b.cell? ⟨i,k+d*4+1,none⟩=some (.int .i64 v)/\b.cell? ⟨i,k+d*4+2,none⟩=some (.int .i64 w)/\b.cell? ⟨i,k+d*4+3,none⟩=some (.int .i64 q))
   ((refine r _ ?_;first|exact Below.refl _ _|exact(Below.refl _ _).drew|exact hk|exact hk.drew))
   (first
    |(go_at_call 145;refine mo_ (mF _ _ _ _ _ (by first|exact F.out|exact G.out)) λD n=>?_;have hk:Below wr wr D:=Below.trans SF (n.mono (by first|exact le_refl _|exact hk.size));clear n))
  have ag:=(bF hk o).trans M;clear r;go_wp2_with fail;go_ret2;exact⟨by rw[eK,P.out];rfl,s.trans (hk.mono s.size)⟩
 have N:Hid (cd f (bL ⟨p,g,h,j⟩)=none):=by rw[List.take_of_length_le Q0] at m;exact m
 clear m y A;go_wp2_with fail;go_ret2;exact⟨by rw[eK,N.out];rfl,s⟩
def jn(p:Prd):Bool:=bQ p.kind 0 3&&bQ p.arity 0 2
def iE(ps:List Prd):Bool:=ps.all jn
def oS(f:List Fct)(i:Nat):Fct:=f.getD i ⟨0,0,0,0⟩
def ig(ps:List Prd)(f:List Fct)(i:Nat):Bool:=cw ps (oS f i)&&(i==0||decide (bL (oS f (i-1))<bL (oS f i)))
def iD(ps:List Prd)(f:List Fct)(k:Nat):Bool:=(List.range k).all (ig ps f)
def bW(ps:List Prd)(f:List Fct):Int:=if 5<ps.length then 2 else if iE ps=false then 2 else if iD ps f f then 0 else 1
theorem zL(a f k):iD a f (k+1)=(iD a f k&&ig a f k):=by simp[iD,List.range_succ]
theorem zK{a f k}(c:k<f.length)(b:ig a f k=false):iD a f f.length=false:=List.all_eq_false.2 ⟨k,mem_range.2 c,by simp[b]⟩
theorem mC{d f}(i:d.length<=5)(c:cw d f=true):eF f:=by
 simp only[cw,and_eq_true] at c;obtain⟨g,h2,h,_⟩:=c;obtain⟨l,k,j⟩:=fd.1 g;have a:=Q9;have b:=by simpa[bQ] using h
 exact⟨Q0,Q0,a.1,a.2,b.1,b.2⟩
theorem zM{a}(b:eF a):Hid (eF a):=b
theorem l_{f a}(b:a<f.length):oS f a=f[a]:=by simp[oS,b]
theorem SG(h:p:=by show _=_;rw[bW,if_neg h5,if_neg (by rw[hpk];simp)]):p:=h
theorem SH(h:p:=by rw[HE.out,if_neg (by rw[zK hlt h];simp)]):p:=h
theorem SI(h:p:=by kernel_rfl):p:=h
theorem SJ(h:p:=by first|exact HSJ.out|exact HSI.out):p:=h
theorem SK(h:p:=by show _=_;rw[ig,HNJ.out,Nat.add_sub_cancel,l_ hil];simp):p:=h
theorem SL(h:p:=by show _=_;rw[HE.out,if_pos (by obtain rfl:j=f.length:=(by omega);exact hgo)]):p:=h
theorem YX(h:p:=by
 go_wp2_with fail
 have L0:=lo_ s2 t0
 have L1:=lo_ s2 t1
 have L2:=lo_ s2 t2
 have L3:=lo_ s2 t3
 have M0:=lo_ s2 u0
 have M1:=lo_ s2 u1
 have M2:=lo_ s2 u2
 have M3:=lo_ s2 u3
 refine dz wr.heap.size SI SI ?_
 repeat(go_big_quiet_step ((first|(go_at_call 191;exact dy (rI _ _ ps _ _ _ _ (HP _ (hbw.trans ((Low.low _).mono hbw.size)))))|(go_at_call 145;exact dy (mF _ _ _ _ _ SJ)))))
 refine wpQuiet_nil ?_
 rintro _ ⟨⟨w1,hk⟩,rfl⟩
 clear L0 L1 L2 L3 M0 M1 M2 M3
 go_wp2_with fail
 go_ret
 exact⟨eJ H3.out.symm,hbw.trans (hk.mono hbw.size)⟩):p:=h
theorem Ze(h:p:=by
 go_wp2_with fail
 go_ret
 exact⟨rfl,Below.refl _ _⟩):p:=h
theorem afi(h:p:=by
 clear H H2
 go_wp2_with(go_at_call 87;refine mq_ (et _ _ _ _) ?_)
 go_ret
 exact⟨eJ H3.out.symm,Below.refl _ _⟩):p:=h
theorem aaN(h:p:=by
 have HG:Hid (bW ps f=0):=SL
 clear hgo HE HF
 go_wp2_with fail
 go_ret
 exact⟨eJ HG.out.symm,hbw⟩):p:=h
theorem FV(g:World)(J x ps f)(D:bR g J ps)(C:bO g x f):Calls prog 148 #[J,x] g λe X=>e=.returned (.int .i64 (bW ps f))/\Below g g X:=by
 have HP:=lp_ D;have HF:=hid_ C;obtain⟨ak,al,rfl,aj,F⟩:=D;obtain⟨N,O,rfl,ae,_⟩:=C;have K:=hid_ F;clear F;by_cases h5:5<ps.length
 .have e:bW ps f=2:=by rw[bW,if_pos h5]
  rw[e];have P:(5:Int)<(ps.length:Int):=Q0;go_enter func148,ntmps148;exact Ze
 have P:¬(5:Int)<(ps.length:Int):=Q0;go_enter func148,ntmps148;go_wp2_with fail;go_loop [5] (λb=>∃c:Nat,c<=ps.length/\b=.int .i64 c/\(ps.take c).all jn=true) (λb=>ps.length-(intOf b).toNat)
 case atStart=>exact⟨0,zero_le _,rfl,rfl⟩
 obtain⟨c,hk,rfl,hall⟩:=hrel;by_cases hlt:c<ps.length
 .obtain⟨Z,q,rfl,p,I⟩:=K.out.resolve_left Rt;obtain⟨Q,ac,ad⟩:=I c ps[c] Ru;have H:Hid ((ps.take (c+1)).all jn=jn ps[c]):=Rw;have H2:Hid (jn ps[c]=false->bW ps f=2):=λh=>by rw[bW,if_neg h5,if_pos (show iE ps=false from qN hlt h)]
  clear I hall Q;generalize ps[c]=U at*;obtain⟨am,V,W⟩:=U;cases y:bQ W 0 3
  .have H3:=hid_ (H2 (by simp only[jn,y,Bool.false_and]));exact afi
  cases z:bQ V 0 2
  .have H3:=hid_ (H2 (by simp only[jn,z,Bool.and_false]));exact afi
  have H3:Hid ((ps.take (c+1)).all jn=true):=by show _=_;rw[H.out];simp only[jn,y,z];rfl
  clear H H2;go_wp2_with(go_at_call 87;refine mq_ (et _ _ _ _) ?_);go_round
  case rel=>exact⟨c+1,Q0,Rv,H3.out⟩
  exact adT
 have hpk:iE ps=true:=nQ hlt hall;have HE:Hid (bW ps f=if iD ps f f then 0 else 1):=SG;clear hall hpk;go_wp2_with fail;clear hlt hk;go_loopw [6] (λb wr=>∃j:Nat,j<=f.length/\b=.int .i64 j/\iD ps f j=true/\Below g g wr) (λb _=>f.length-(intOf b).toNat)
 case atStart=>exact⟨0,zero_le _,rfl,rfl,Below.refl _ _⟩
 obtain⟨j,ag,rfl,hgo,hbw⟩:=hrel;by_cases hlt:j<f.length
 .have H:Hid (iD ps f (j+1)=ig ps f j):=by show _=_;rw[zL,hgo,Bool.true_and]
  have H2:Hid (ig ps f j=false->bW ps f=1):=λh=>SH;obtain⟨o,q,M,hv,p,A⟩:=ly HF hlt;obtain⟨rfl,rfl⟩:N=some ⟨o,q,none⟩/\O=M:=SC;have s2:=Nat.lt_of_lt_of_le p hbw.size;obtain⟨t0,t1,t2,t3⟩:=m7.a g wr o _ _ hbw p A;have ai:(j:Int)<(f.length:Int):=Q0;have ah:(0:Int)<=(j:Int):=Q0;have HNJ:=hid_ (l_ hlt);clear A hv;rcases Nat.eq_zero_or_pos j with rfl|hjp
  .have d:Hid (ig ps f 0=cw ps f[0]):=by show _=_;rw[ig,HNJ.out];simp
   simp only[Nat.zero_mul,Nat.add_zero] at t0 t1 t2 t3;clear HNJ HF hgo;generalize f[0]=r at*;obtain⟨m,k,l,n⟩:=r;cases i:cw ps ⟨m,k,l,n⟩
   .have H3:=hid_ (H2 (d.out.trans i));clear H H2 HE d;go_wp2_with fail;have L0:=lo_ s2 t0;have L1:=lo_ s2 t1;have L2:=lo_ s2 t2;have L3:=lo_ s2 t3;refine dz wr.heap.size SI SI ?_;repeat(go_big_quiet_step ((first|(go_at_call 191;exact dy (rI _ _ ps _ _ _ _ (HP _ (hbw.trans ((Low.low _).mono hbw.size)))))|(go_at_call 145;exact dy (mF _ _ _ _ _ SJ)))))
    refine wpQuiet_nil ?_;rintro _ ⟨⟨w1,hk⟩,rfl⟩;clear L0 L1 L2 L3;go_wp2_with fail;go_ret;exact⟨eJ H3.out.symm,hbw.trans (hk.mono hbw.size)⟩
   have H3:=hid_ (H.out.trans (d.out.trans i));clear H H2 HE d;go_wp2_with fail;have L0:=lo_ s2 t0;have L1:=lo_ s2 t1;have L2:=lo_ s2 t2;have L3:=lo_ s2 t3;refine dz wr.heap.size SI SI ?_;repeat(go_big_quiet_step ((first|(go_at_call 191;exact dy (rI _ _ ps _ _ _ _ (HP _ (hbw.trans ((Low.low _).mono hbw.size)))))|(go_at_call 145;exact dy (mF _ _ _ _ _ SJ)))))
   refine wpQuiet_nil ?_;rintro _ ⟨⟨w1,hk⟩,rfl⟩;clear L0 L1 L2 L3;go_wp2_with fail;go_roundw
   case rel=>exact⟨0+1,Q0,Rv,H3.out,hbw.trans (hk.mono hbw.size)⟩
   exact adT
  obtain⟨b,rfl⟩:∃b,j=b+1:=⟨j-1,Q0⟩;have hil:b<f.length:=Q0;obtain⟨L,T,aa,G,ab,B⟩:=ly HF hil;obtain⟨⟨rfl,rfl⟩,R⟩:(o=L/\q=T)/\_:=by simpa using G
  clear R;obtain⟨u0,u1,u2,u3⟩:=m7.a g wr o _ _ hbw p B;have d:Hid (ig ps f (b+1)=(cw ps f[b+1]&&decide (bL f[b]<bL f[b+1]))):=SK
  have w:Hid (cw ps f[b]=true):=by
   have:=all_eq_true.1 hgo b (mem_range.2 Q0);simp only[ig,l_ hil,and_eq_true] at this;exact this.1
  have HSI:=hid_ (mC Q0 w.out);have HSJ:Hid (cw ps f[b+1]=true->eF f[b+1]):=mC Q0;have af:(b:Int)<(f.length:Int):=Q0;clear HNJ HF hgo B G w;generalize f[b+1]=r at*;generalize f[b]=Y at*;obtain⟨m,k,l,n⟩:=r;obtain⟨u,s,t,v⟩:=Y;cases i:cw ps ⟨m,k,l,n⟩
  .have H3:=hid_ (H2 (d.out.trans (by rw[i];rfl)));clear H H2 HE d HSJ;exact YX
  have HSJ:=zM (HSJ i);by_cases E:bL ⟨m,k,l,n⟩<=bL ⟨u,s,t,v⟩
  .have H3:=hid_ (H2 (d.out.trans (by rw[i];simp;omega)));have S:decide (bL ⟨m,k,l,n⟩<=bL ⟨u,s,t,v⟩)=true:=by simpa using E
   clear H H2 HE d;exact YX
  have H3:Hid (iD ps f (b+1+1)=true):=H.out.trans (d.out.trans (by rw[i];simp;omega));have S:decide (bL ⟨m,k,l,n⟩<=bL ⟨u,s,t,v⟩)=false:=by simpa using E
  clear H H2 HE d;go_wp2_with fail;have L0:=lo_ s2 t0;have L1:=lo_ s2 t1;have L2:=lo_ s2 t2;have L3:=lo_ s2 t3;have M0:=lo_ s2 u0;have M1:=lo_ s2 u1;have M2:=lo_ s2 u2;have M3:=lo_ s2 u3;refine dz wr.heap.size SI SI ?_;repeat(go_big_quiet_step ((first|(go_at_call 191;exact dy (rI _ _ ps _ _ _ _ (HP _ (hbw.trans ((Low.low _).mono hbw.size)))))|(go_at_call 145;exact dy (mF _ _ _ _ _ SJ)))))
  refine wpQuiet_nil ?_;rintro _ ⟨⟨w1,hk⟩,rfl⟩;clear L0 L1 L2 L3 M0 M1 M2 M3;go_wp2_with fail;go_roundw
  case rel=>exact⟨b+1+1,Q0,Rv,H3.out,hbw.trans (hk.mono hbw.size)⟩
  exact adT
 exact aaN
theorem eR{b f}(a:bW b f=0):b.length<=5/\iE b=true/\iD b f f.length=true:=by
 unfold bW at a;split at a
 .omega
 split at a
 .omega
 split at a
 .rename_i h1 h2 h3;exact⟨Q0,Q5,h3⟩
 omega
theorem kA{b f}(d:bW b f=0):∀c∈f,cw b c=true:=by
 obtain⟨_,_,g⟩:=eR d;intro c h;obtain⟨i,a,rfl⟩:=List.getElem_of_mem h;have:=all_eq_true.1 g i (mem_range.2 a);simp only[ig,l_ a,and_eq_true] at this;exact this.1
theorem oP{d f}(b:bW d f=0):∀a∈f,eF a:=λa c=>mC (eR b).1 (kA b a c)
theorem iC{a f}(d:cw a f=true):aG a (bJ a) f:=by
 simp only[cw,and_eq_true] at d;obtain⟨g,h2,h,_,_,i⟩:=d;obtain⟨l,k,j⟩:=fd.1 g;have b:=Q9;have c:=by simpa[bQ] using h
 exact⟨Q0,Q0,b.1,b.2,c.1,c.2,by simpa using i⟩
theorem vV{d f}(c:iD d f f.length=true)(a)(b:a+1<f.length):bL f[a]<bL f[a+1]:=by
 have:=all_eq_true.1 c (a+1) (mem_range.2 b);simp only[ig,and_eq_true,Nat.add_sub_cancel,l_ b,l_ (show a<f.length by omega)] at this;simpa using this.2
theorem Gc{g f}(d:iD g f f.length=true)(b):∀(a:Nat) (c:b+a+1<f.length),bL (f[b]' Q0)<bL f[b+a+1]:=by
 intro a;induction a with
 |zero=>intro c;exact vV d b c
 |succ a ih=>intro c;exact Int.lt_trans (ih Q0) (vV d (b+a+1) c)
theorem cG{c f}(d:bW c f=0):am c (bJ c) f:=by
 refine⟨?_,λj i=>iC (kA d j i)⟩;rw[fV,List.pairwise_iff_getElem];intro b g k h l;obtain⟨a,rfl⟩:∃a,g=b+a+1:=⟨g-b-1,Q0⟩;exact Gc (eR d).2.2 b a h
def m_(ps:List Prd)(f:List Fct)(x:Fct):Int×Bool×Int:=
 if bW ps f≠0 then(0,false,bW ps f) else if cw ps x=false then(0,false,1) else(eK f (bL x),(cd f (bL x)).isSome,0)
theorem pC{a b:World}{p c d f:Int}{g:Nat}(h:Below (a.alloc (.cells #[p,c,d,f] g)).heap.size (a.alloc (.cells #[p,c,d,f] g)) b):b.cell? a=some (.int .i64 p)/\b.cell? ⟨a,1,none⟩=some (.int .i64 c)/\b.cell? ⟨a,2,none⟩=some (.int .i64 d)/\b.cell? ⟨a,3,none⟩=some (.int .i64 f):=by
 refine⟨?_,?_,?_,?_⟩<;>(rw[h.cell Q1];simp[go_sem])
def cT(v:ae):Bool:=bQ v.x 0 4&&(bQ v.y 0 4&&bQ v.z 0 4)
def cv(v:ae)(a:Atm):Fct:=Cx v a.pred a.args
def kD(f:List Fct)(v:ae)(l:Ltr):Bool:=(cd f (bL (cv v l.atom))).isSome
def lD(f:List Fct)(v:ae)(l:Ltr):Bool:=kD f v l != l.neg
def cS(f:List Fct)(v:ae)(ls:List Ltr):Bool:=ls.all (lD f v)
def oU(ps:List Prd)(f:List Fct)(r:Rul)(v:ae)(k:Nat):Int:=fG (bJ ps r.head.pred) (eK f (bL (cv v ((r.body[k]?.map Ltr.atom).getD ⟨0,[]⟩)))) r.n
def dI(ps:List Prd)(f:List Fct)(r:Rul)(v:ae)(k:Nat):Int:=if 0<=r.src/\r.src<(k:Int) then oU ps f r v r.src.toNat else r.n
def co(ps:List Prd)(f:List Fct)(r:Rul)(v:ae):Fct:=⟨r.head.pred,bZ v r.head.args 0,bZ v r.head.args 1,dI ps f r v r.body⟩
def dl(ps:List Prd)(f:List Fct)(r:Rul)(v:ae):Fct:=if cS f v r.body then co ps f r v else⟨0,0,0,0⟩
def ev(ps:List Prd)(rs:List Rul)(f:List Fct)(n:Int):Int:=if bP ps rs≠0 then bP ps rs else if bW ps f≠0 then bW ps f else if 0<=n/\n<(rs.length:Int) then 0 else 7
def f9(ps:List Prd)(rs:List Rul)(f:List Fct)(n:Int)(v:ae):Int:=if ev ps rs f n≠0 then ev ps rs f n else if cT v then 0 else 3
theorem kE{n a b}:bQ n a b=true↔a<=n/\n<=b:=by unfold bQ;simp
theorem GI{c}(b:cT c=true)(n):bQ (c.a n) 0 4=true:=by
 unfold cT at b;rw[and_eq_true,and_eq_true] at b;unfold ae.a;split
 .exact b.1
 split
 .exact b.2.1
 exact b.2.2
theorem rj{a}(c:iE a=true){p}(d:gl a p=true):bQ (bJ a p) 0 3=true/\bQ (dN a p) 0 2=true:=by
 obtain⟨f,b,rfl⟩:=fd.1 d;have:=all_eq_true.1 c a[f] (getElem_mem b);unfold jn at this;rw[and_eq_true] at this;unfold bJ dN;rw[Int.toNat_natCast,List.getElem?_eq_getElem b];exact this
theorem SM(h:p:=by unfold bZ;rw[List.getElem?_eq_none (by omega)];rfl):p:=h
theorem nS{b a v}(c:cf b a=0)(o:iE b=true)(p:cT v=true):g_ v a.args=0/\cw b (cv v a)=true:=by
 unfold cf at c;split at c
 .rename_i h1;split at c
  .rename_i h2;obtain⟨q,r⟩:=rj o h1;have s:=kE.1 r
   have i:a.args.all db=true:=by
    unfold i_ at c;split at c
    .assumption
    cases c
   have j:∀d∈a.args,bQ (fJ v d) 0 4=true:=λd f=>by
    have:=all_eq_true.1 i d f;unfold db at this;unfold fJ;split
    .exact GI p _
    rename_i hn;rw[if_neg hn] at this;exact this
   have n:g_ v a.args=0:=by
    unfold g_;rw[if_neg Q0,if_pos (all_eq_true.2 λd f=>by unfold gQ;rw[all_eq_true.1 i d f,j d f];rfl)]
   have h:∀g,bQ (bZ v a.args g) 0 4=true:=λg=>by
    unfold bZ;cases e:a.args[g]? with
    |none=>rfl
    |some d=>exact j d (List.mem_of_getElem? e)
   have k:(decide (1<=dN b a.pred)||bZ v a.args 0==0)=true:=by
    by_cases e:1<=dN b a.pred
    .rw[decide_eq_true e,Bool.true_or]
    have:bZ v a.args 0=0:=SM;rw[this];simp
   have l:(decide (2<=dN b a.pred)||bZ v a.args 1==0)=true:=by
    by_cases e:2<=dN b a.pred
    .rw[decide_eq_true e,Bool.true_or]
    have:bZ v a.args 1=0:=SM;rw[this];simp
   have m:cp (bJ b a.pred) 0=0:=by
    have:=kE.1 q;obtain e|e|e|e:bJ b a.pred=0\/bJ b a.pred=1\/bJ b a.pred=2\/bJ b a.pred=3:=Q0;all_goals rw[e];rfl
   refine⟨n,?_⟩;show(gl b a.pred&&(bQ (bZ v a.args 0) 0 4&&(bQ (bZ v a.args 1) 0 4&&((decide (1<=dN b a.pred)||bZ v a.args 0==0)&&((decide (2<=dN b a.pred)||bZ v a.args 1==0)&&cp (bJ b a.pred) 0==0)))))=true;rw[h1,h 0,h 1,k,l,m];rfl
  cases c
 cases c
theorem f_{c b}(a:cx c b=0):cf c b.head=0/\(∀l∈b.body,cf c l.atom=0)/\ -1<=b.src/\b.src<(b.body.length:Int)/\0<=b.n/\b.n<=15/\b.body.length<=3:=by
 rw[cx] at a;split at a
 .contradiction
 rename_i h1;split at a
 .contradiction
 rename_i h2;split at a
 .contradiction
 rename_i h3;split at a
 .contradiction
 unfold gB at a;split at a
 .contradiction
 rename_i h4;split at a
 .contradiction
 split at a
 .contradiction
 split at a
 .contradiction
 rename_i h5;exact⟨Classical.not_not.1 h1,tW (Classical.not_not.1 h3),Q0,Q0,Q0,Q0,Q0⟩
theorem SN(h:p:=by decide):p:=h
theorem rh{d f}(a:bW d f=0)(c):0<=eK f c/\eK f c<=15:=by
 have b:=kA a;unfold eK;clear a;induction f with
 |nil=>rw[qT];exact⟨SN,SN⟩
 |cons g f ih=>
  rw[eL];split
  .have:=b g Q1;unfold cw at this;simp only[and_eq_true,beq_iff_eq] at this;have:=gz this.2.2.2.2.2;exact⟨this.2.1,this.2.2⟩
  exact ih λh hz=>b h Sz
theorem Hq{ps f a v k}(c:k<a.body.length):dI ps f a v (k+1)=if(k:Int)=a.src then fG (bJ ps a.head.pred) (eK f (bL (cv v a.body[k].atom))) a.n else dI ps f a v k:=by
 unfold dI;by_cases e:(k:Int)=a.src
 .rw[if_pos e,if_pos Q0,oU,<-e,Int.toNat_natCast,List.getElem?_eq_getElem c];rfl
 rw[if_neg e];by_cases b:0<=a.src/\a.src<(k:Int)
 .rw[if_pos Q0,if_pos b]
 rw[if_neg Q0,if_neg b]
theorem Hr(b f a c):dI b f a c 0=a.n:=by
 unfold dI;rw[if_neg Q0]
theorem lA{c h}{d:Exit->Act->World->Prop}{g:Act}{a:World}(b:World->Prop)(j:b a)(i:∀f,b f->Code.wp c h d g f):Code.wp c h d g a:=i a j
def eG(x y:Int):Int:=if x<y then-1 else if y<x then 1 else 0
def j_(x y z:Int):Int:=if x≠0 then x else if y≠0 then y else z
def mA(x y:Fct):Int:=j_ (eG x.pred y.pred) (eG x.a y.a) (eG x.b y.b)
theorem pB{c d}(l:eF c)(m:eF d):(mA c d<0↔bL c<bL d)/\(mA c d=0↔bL c=bL d):=by
 obtain⟨_,_,_,_,_,_⟩:=l;obtain⟨_,_,_,_,_,_⟩:=m;unfold mA j_ eG bL;by_cases f:c.pred<d.pred
 .simp only[f,if_true];simp;omega
 by_cases i:d.pred<c.pred
 .simp only[f,i,if_true,if_false];simp;omega
 simp only[f,i,if_false];by_cases g:c.a<d.a
 .simp only[g,if_true];simp;omega
 by_cases j:d.a<c.a
 .simp only[g,j,if_true,if_false];simp;omega
 simp only[g,j,if_false];by_cases h:c.b<d.b
 .simp only[h,if_true];simp;omega
 by_cases k:d.b<c.b
 .simp only[h,k,if_true,if_false];simp;omega
 simp only[h,k,if_false];simp;omega
theorem vW(c:Int)(a:World):Calls prog 247 #[c] a λe b=>e=.returned (.bool false)/\b=a:=by
 go_enter func247,ntmps247;go_wp2;go_ret;simp
theorem afu(h:p:=by
 go_enter func221,ntmps221
 go_wp2_with(go_at_call 247;refine mq_ (vW _ _) ?_)
 exact adX):p:=h
theorem zE(a b:Int)(f:World):Calls prog 221 #[a,b] f λe g=>e=.returned (.int .i64 (eG a b))/\g=f:=by
 unfold eG;by_cases c:a<b
 .rw[if_pos c];exact afu
 rw[if_neg c];by_cases d:b<a
 .rw[if_pos d];exact afu
 rw[if_neg d];exact afu
theorem Gn(h:World)(i:Nat)(d f g:Int)(u:h.cell? i=some (.int .i64 d))(v:h.cell? ⟨i,1,none⟩=some (.int .i64 f))(w:h.cell? ⟨i,2,none⟩=some (.int .i64 g)):Calls prog 220 #[.slice (some ⟨i,0,none⟩) 3 3] h λe t=>e=.returned (.int .i64 (j_ d f g))/\t=h:=by
 go_enter func220,ntmps220;go_wp2_with fail;go_loop [8] (λm=>∃a:Nat,a<=3/\m=.int .i64 a/\(0<a->d=0)/\(1<a->f=0)/\(2<a->g=0)) (λm=>3-(intOf m).toNat)
 case atStart=>exact⟨0,Q0,rfl,Q0,Q0,Q0⟩
 obtain⟨a,x,rfl,p,q,r⟩:=hrel;have l:=hid_ p;have n:=hid_ q;have s:=hid_ r;clear p q r;rcases(show a=0\/a=1\/a=2\/a=3 by omega) with rfl|rfl|rfl|rfl
 .by_cases hx:d=0
  .have y:(d==0)=true:=SA;have b:=hid_ hx;clear hx;go_wp2_with fail;go_round
   case rel=>exact⟨1,Q0,Rv,λ_=>b.out,Q0,Q0⟩
   simp[intOf]
  have b:Hid (d≠0):=hx;go_wp2_with fail;go_ret;exact⟨by rw[j_,if_pos b.out];rfl,rfl⟩
 .have b:=hid_ (l Q0);by_cases j:f=0
  .have z:(f==0)=true:=by simpa using j
   have c:=hid_ j;clear j;go_wp2_with fail;go_round
   case rel=>exact⟨2,Q0,Rv,λ_=>b.out,λ_=>c.out,Q0⟩
   simp[intOf]
  have c:Hid (f≠0):=j;go_wp2_with fail;go_ret;exact⟨by rw[j_,if_neg (by simp[b.out]),if_pos c.out];rfl,rfl⟩
 .have b:=hid_ (l Q0);have c:=hid_ (n Q0);by_cases k:g=0
  .have A:(g==0)=true:=by simpa using k
   have o:=hid_ k;clear k;go_wp2_with fail;go_round
   case rel=>exact⟨3,Q0,Rv,λ_=>b.out,λ_=>c.out,λ_=>o.out⟩
   simp[intOf]
  have o:Hid (g≠0):=k;go_wp2_with fail;go_ret;exact⟨by rw[j_,if_neg (by simp[b.out]),if_neg (by simp[c.out])];rfl,rfl⟩
 go_wp2_with fail;go_ret;exact⟨by rw[j_,if_neg (by simp[l.out]),if_neg (by simp[n.out]),s Q0];rfl,rfl⟩
theorem aer(h:p:=by
 go_wp2_with fail
 exact adX):p:=h
theorem aeI(h:p:=by
 have e:(bQ n 0 4&&(true||n==0))=false:=Rs
 rw[e]
 go_enter func219,ntmps219
 exact aer):p:=h
theorem Gj(a:Bool)(n:Int)(b:World):Calls prog 219 #[.bool a,n] b λe c=>e=.returned (.bool (bQ n 0 4&&(a||n==0)))/\c=b:=by
 by_cases h0:n=0
 .subst h0;go_enter func219,ntmps219;go_wp2_with fail;go_ret;simp[bQ]
 have d:(n==0)=false:=Q8;cases a
 .go_enter func219,ntmps219;go_wp2_with fail;go_ret;simp[h0]
 by_cases f:0<n
 .by_cases g:n<=4
  .have e:(bQ n 0 4&&(true||n==0))=true:=Rs;rw[e];go_enter func219,ntmps219;exact aer
  exact aeI
 exact aeI
theorem pE(p g h t k i j s:Int)(b:World):Calls prog 181 #[.agg #[p,g,h,t],.agg #[k,i,j,s]] b λe a=>e=.returned (.int .i64 (mA ⟨p,g,h,t⟩ ⟨k,i,j,s⟩))/\Below b b a:=by
 go_enter func181,ntmps181;go_wp2_with fail;refine lA (λa=>Below b b a/\b.heap.size+2=a.heap.size/\a.cell? b=some (.int .i64 p)/\a.cell? ⟨b,1,none⟩=some (.int .i64 g)/\a.cell? ⟨b,2,none⟩=some (.int .i64 h)/\a.cell? ⟨b.heap.size+1,0,none⟩=some (.int .i64 k)/\a.cell? ⟨b.heap.size+1,1,none⟩=some (.int .i64 i)/\a.cell? ⟨b.heap.size+1,2,none⟩=some (.int .i64 j)) ⟨(bH _ _).alloc Q1 _,Q1,Re,Re,Re,Re,Re,Re⟩ ?_;rintro d ⟨o,A,u,v,w,x,y,z⟩;have l:b.heap.size<d.heap.size:=Q0;have m:b.heap.size+1<d.heap.size:=Q0;have n:Hid (∀a,Below d d a->(λa=>Below d d a/\a.cell? b=some (.int .i64 p)/\a.cell? ⟨b,1,none⟩=some (.int .i64 g)/\a.cell? ⟨b,2,none⟩=some (.int .i64 h)/\a.cell? ⟨b.heap.size+1,0,none⟩=some (.int .i64 k)/\a.cell? ⟨b.heap.size+1,1,none⟩=some (.int .i64 i)/\a.cell? ⟨b.heap.size+1,2,none⟩=some (.int .i64 j)) a):=λa f=>⟨f,(bF f l).trans u,(bF f l).trans v,(bF f l).trans w,(bF f m).trans x,(bF f m).trans y,(bF f m).trans z⟩;clear A
 go_region_held3 (λa=>Below d d a/\a.cell? b=some (.int .i64 p)/\a.cell? ⟨b,1,none⟩=some (.int .i64 g)/\a.cell? ⟨b,2,none⟩=some (.int .i64 h)/\a.cell? ⟨b.heap.size+1,0,none⟩=some (.int .i64 k)/\a.cell? ⟨b.heap.size+1,1,none⟩=some (.int .i64 i)/\a.cell? ⟨b.heap.size+1,2,none⟩=some (.int .i64 j))
  ((refine n _ ?_;(first|exact Below.refl _ _|exact(Below.refl _ _).drew|exact c|exact c.drew|exact c.alloc c.size _|exact(c.alloc c.size _).drew|exact c.drew.alloc c.size _)))
  (first
   |(go_at_call 221;refine mo_ (zE _ _ _) λB q=>?_;have c:Below d d B:=(by rw[q];(first|exact Below.refl _ _|exact(Below.refl _ _).drew|exact c|exact c.drew));clear q)
   |(go_at_call 220;refine mo_ (Gn _ _ (eG p k) (eG g i) (eG h j) Re Re Re) λC r=>?_;have c:Below d d C:=(by rw[r];(first|exact c.alloc c.size _|exact(c.alloc c.size _).drew|exact c.drew.alloc c.size _));clear r))
 clear n;go_wp2_with fail;go_ret;exact⟨rfl,o.trans (c.mono o.size)⟩
def mE(has:Bool)(n:Int):Bool:=bQ n 0 4&&(has||n==0)
theorem nd(a n c)(b:World)(d:mE a n=c):Calls prog 219 #[.bool a,n] b λe f=>e=.returned (.bool c)/\f=b:=d▸Gj a n b
theorem F_{b}{k:Nat}(d:k<b.length)(a c f:Int):cw b ⟨(k:Int),a,c,f⟩=(mE (decide (0<b[k].arity)) a&&(mE (decide (1<b[k].arity)) c&&cp b[k].kind f==0)):=by
 have g:=fd.2 ⟨k,d,rfl⟩;have h:dN b (k:Int)=b[k].arity:=by simp[dN,d]
 have i:bJ b (k:Int)=b[k].kind:=by simp[bJ,d]
 simp only[cw,g,h,i,Bool.true_and,mE];rw[show decide (1<=b[k].arity)=decide (0<b[k].arity) from decide_eq_decide.2 Q0,show decide (2<=b[k].arity)=decide (1<b[k].arity) from decide_eq_decide.2 Q0];cases bQ a 0 4<;>cases bQ c 0 4<;>cases(decide (0<b[k].arity)||a==0)<;>simp
theorem ae4(h:p:=by
 go_enter func180,ntmps180
 go_wp2_with(first|(go_at_call 219;refine mq_ (nd _ _ _ _ Q7) ?_)|(go_at_call 179;refine mq_ (iH _ _ _) ?_))
 go_ret
 exact⟨rfl,(bH _ _).alloc Q1 _⟩):p:=h
theorem afa(h:p:=by
 cases g5:(cp qk v==0)
 all_goals
  rw[Bool.true_and,Bool.true_and]
  go_enter func180,ntmps180
  go_wp2_with(first|(go_at_call 219;refine mq_ (nd _ _ _ _ Q7) ?_)|(go_at_call 179;refine mq_ (iH _ _ _) ?_))
  go_ret
  exact⟨rfl,(bH _ _).alloc Q1 _⟩):p:=h
theorem afy(h:p:=by
 rw[Bool.false_and,Bool.and_false]
 exact ae4):p:=h
theorem oQ(j:World)(l b)(p d f v:Int)(o:bR j l b):Calls prog 180 #[l,.agg #[p,d,f,v]] j λe u=>e=.returned (.bool (cw b ⟨p,d,f,v⟩))/\Below j j u:=by
 obtain⟨I,x,rfl,E,h⟩:=o;cases g:gl b p
 .have e:cw b ⟨p,d,f,v⟩=false:=by simp[cw,g]
  rw[e];clear e h;by_cases F:p<0
  .clear g;go_enter func180,ntmps180;exact YO
  have G:(b.length:Int)<=p:=by
   refine Classical.byContradiction λz=>?_;have:=fd.2 (⟨p.toNat,Q0,by show p=_;omega⟩:∃a:Nat,a<b.length/\p=(a:Int));rw[g] at this;cases this
  clear g;go_enter func180,ntmps180;exact YO
 obtain⟨a,hk,rfl⟩:=fd.1 g;obtain⟨w,H,rfl,y,h⟩:=h.resolve_left Rz;obtain⟨q,r,s⟩:=h a b[a] RA;rw[F_ hk];have A:(0:Int)<=(a:Int):=Q0;have B:(a:Int)<(b.length:Int):=Q0;have C:¬(a:Int)<0:=Q0;have D:¬(b.length:Int)<=(a:Int):=Q0;clear h g;generalize b[a]=t at*;obtain⟨J,c,qk⟩:=t;dsimp only at q r s⊢;clear h;by_cases g1:0<c
 .have k:decide (0<c)=true:=Sx;rw[k];by_cases g2:1<c
  .have i:decide (1<c)=true:=Sy;rw[i];cases m:mE true d
   .rw[Bool.false_and];exact ae4
   cases n:mE true f
   .exact afy
   exact afa
  have i:decide (1<c)=false:=Sy;rw[i];cases m:mE true d
  .rw[Bool.false_and];exact ae4
  cases n:mE false f
  .exact afy
  exact afa
 have k:decide (0<c)=false:=Sx;have g2:¬1<c:=Q0;have i:decide (1<c)=false:=Sy;rw[k,i];cases m:mE false d
 .rw[Bool.false_and];exact ae4
 cases n:mE false f
 .exact afy
 exact afa
theorem Gk{a}(b:iE a=true){k}(c:k<a.length):a[k].kind=0\/a[k].kind=1\/a[k].kind=2\/a[k].kind=3:=by
 have:=all_eq_true.1 b a[k] (getElem_mem c);simp only[jn,bQ,and_eq_true,decide_eq_true_eq] at this;omega
theorem zP{a}{k:Nat}(b:k<a.length):bJ a (k:Int)=a[k].kind:=by simp[bJ,b]
structure Std where
 v:ae
 bx:Bool
 bq:Bool
 bz:Bool
def fE(n:Int):Nat:=if n=0 then 0 else if n=1 then 1 else 2
def Std.a(s:Std)(n:Int):Bool:=if n=0 then s.bx else if n=1 then s.bq else s.bz
def Std.b(s:Std)(n c:Int):Std:=if n=0 then⟨⟨c,s.v.y,s.v.z⟩,true,s.bq,s.bz⟩ else if n=1 then⟨⟨s.v.x,c,s.v.z⟩,s.bx,true,s.bz⟩ else⟨⟨s.v.x,s.v.y,c⟩,s.bx,s.bq,true⟩
def jH(x:Fct)(i:Nat):Int:=if i=0 then x.a else x.b
def ez(x:Fct):Std->List Tm->Nat->Option Std
 |s,[],_=>some s
 |s,t::ts,i=>if t.var=true/\s.a t.n=false then ez x (s.b t.n (jH x i)) ts (i+1) else if fJ s.v t=jH x i then ez x s ts (i+1) else none
def gd(s:Std)(a:Atm)(x:Fct):Option Std:=if a.pred=x.pred then ez x s a.args 0 else none
def ep(f:List Fct)(body:List Ltr):List Ltr->Std->List ae
 |[],s=>if cS f s.v body then[s.v] else[]
 |l::ls,s=>if l.neg then ep f body ls s else f.flatMap λx=>match gd s l.atom x with
  |some s'=>ep f body ls s'
  |none=>[]
def jp:Std:=⟨⟨0,0,0⟩,false,false,false⟩
theorem abh(h:p:=by
 split at h<;>split at h<;>simp_all
 all_goals(split at h<;>simp_all)):p:=h
theorem wa(c:ae){b n:Int}(h:fE b=fE n):c.a b=c.a n:=by
 unfold fE at h;unfold ae.a;exact abh
theorem Ab(s:Std){b n:Int}(h:fE b=fE n):s.a b=s.a n:=by
 unfold fE at h;unfold Std.a;exact abh
theorem aaI(h:p:=by by_cases h0:n=0<;>by_cases h1:n=1<;>by_cases k0:m=0<;>by_cases k1:m=1<;>simp[h0,h1,k0,k1]<;>omega):p:=h
theorem tA(s:Std)(n c m:Int):(s.b n c).v.a m=if fE m=fE n then c else s.v.a m:=by
 unfold Std.b fE ae.a;exact aaI
theorem rg(s:Std)(n c m:Int):(s.b n c).a m=(decide (fE m=fE n)||s.a m):=by
 unfold Std.b fE Std.a;exact aaI
def ne(s:Std)(v:ae):Prop:=∀n,s.a n=true->v.a n=s.v.a n
def oT(s:Std):Prop:=∀n,s.a n=false->s.v.a n=0
theorem GL{s g n h}(i:s.a n=false):ne (s.b n h) g↔ne s g/\g.a n=h:=by
 constructor
 .intro f;refine⟨λd c=>?_,?_⟩
  .have:=f d (by rw[rg,c];simp);rw[tA] at this;by_cases e:fE d=fE n
   .rw[Ab s e,i] at c;cases c
   rwa[if_neg e] at this
  have:=f n (by rw[rg];simp);rwa[tA,if_pos rfl] at this
 rintro⟨f,rfl⟩ d c;rw[tA];by_cases e:fE d=fE n
 .rw[if_pos e,wa g e]
 rw[if_neg e];rw[rg,decide_eq_false e,Bool.false_or] at c;exact f d c
theorem AC{s c b}(f:ne s c)(d:¬(b.var=true/\s.a b.n=false)):fJ c b=fJ s.v b:=by
 unfold fJ;split
 .rename_i hv;exact f _ (by cases e:s.a b.n;exact absurd ⟨hv,e⟩ d;rfl)
 rfl
theorem wo(i f):∀(k:List Tm) (s:Std) (c:Nat),(∃m,ez i s k c=some m/\ne m f)↔ne s f/\∀b t,k[b]? =some t->fJ f t=jH i (c+b)
 |[],s,c=>by simp[ez]
 |t::k,s,c=>by
  have o:(∀b h,(t::k)[b]? =some h->fJ f h=jH i (c+b))↔fJ f t=jH i c/\∀b h,k[b]? =some h->fJ f h=jH i (c+1+b):=by
   constructor
   .intro g
    exact⟨g 0 t rfl,λb h l=>by have:=g (b+1) h (by simpa using l);rwa[show c+(b+1)=c+1+b by omega] at this⟩
   rintro⟨d,j⟩ b h l
   cases b with
   |zero=>simp at l;subst l;exact d
   |succ b=>rw[show c+(b+1)=c+1+b by omega];exact j b h (by simpa using l)
  rw[o,ez]
  by_cases g:t.var=true/\s.a t.n=false
  .rw[if_pos g,wo i f k,GL g.2]
   have:fJ f t=f.a t.n:=by unfold fJ;rw[if_pos g.1]
   rw[this,and_assoc]
  rw[if_neg g]
  by_cases e:fJ s.v t=jH i c
  .rw[if_pos e,wo i f k]
   constructor
   .rintro⟨d,j⟩
    exact⟨d,(AC d g).trans e,j⟩
   rintro⟨d,_,j⟩
   exact⟨d,j⟩
  rw[if_neg e]
  constructor
  .rintro⟨_,d,_⟩
   cases d
  rintro⟨d,j,_⟩
  exact absurd ((AC d g).symm.trans j) e
def lC(ts:List Tm)(m:Int):Bool:=ts.any λt=>t.var&&decide (fE m=fE t.n)
theorem wm(h):∀(d:List Tm) (s f:Std) (g:Nat),ez h s d g=some f->∀b,f.a b=(s.a b||lC d b)
 |[],s,f,g,c,b=>by cases c;simp[lC]
 |t::d,s,f,g,c,b=>by
  rw[ez] at c
  by_cases e:t.var=true/\s.a t.n=false
  .rw[if_pos e] at c
   rw[wm h d _ _ _ c b,rg]
   unfold lC
   rw[any_cons,e.1]
   cases decide (fE b=fE t.n)<;>cases s.a b<;>simp
  rw[if_neg e] at c
  split at c
  .rw[wm h d _ _ _ c b]
   unfold lC
   rw[any_cons]
   cases l:t.var
   .simp
   have k:s.a t.n=true:=by cases j:s.a t.n;exact absurd ⟨l,j⟩ e;rfl
   by_cases i:fE b=fE t.n
   .rw[Ab s i,k];simp
   rw[decide_eq_false i];simp
  cases c
theorem ws(h):∀(d:List Tm) (s c:Std) (g:Nat),ez h s d g=some c->oT s->oT c
 |[],s,c,g,a,b=>by cases a;exact b
 |t::d,s,c,g,a,b=>by
  rw[ez] at a
  split at a
  .refine ws h d _ _ _ a λi f=>?_
   rw[rg,Bool.or_eq_false_iff] at f
   rw[tA,if_neg (by simpa using f.1)]
   exact b i f.2
  split at a
  .exact ws h d _ _ _ a b
  cases a
def re(v:ae)(a:Atm)(x:Fct):Prop:=a.pred=x.pred/\∀j t,a.args[j]? =some t->fJ v t=jH x j
theorem wE{s b f d}:(∃g,gd s b f=some g/\ne g d)↔ne s d/\re d b f:=by
 unfold gd re;by_cases a:b.pred=f.pred
 .rw[if_pos a,wo];simp[a]
 rw[if_neg a];constructor
 .rintro⟨_,c,_⟩;cases c
 rintro⟨_,c,_⟩;exact absurd c a
theorem AD{s f d g}(b:gd s d g=some f)(c):f.a c=(s.a c||lC d.args c):=by
 unfold gd at b;split at b
 .exact wm _ _ _ _ _ b c
 cases b
theorem tJ{s b c f}(a:gd s c f=some b)(d:oT s):oT b:=by
 unfold gd at a;split at a
 .exact ws _ _ _ _ _ a d
 cases a
def iU(ls:List Ltr)(m:Int):Bool:=ls.any λl=> !l.neg&&lC l.atom.args m
theorem Hs{d c:ae}(b:∀n,d.a n=c.a n):d=c:=by
 have f:=b 0;have g:=b 1;have h:=b 2;cases d
 cases c
 simp[ae.a] at f g h;simp[f,g,h]
theorem ri{f z o}:∀{d:List Ltr} {s:Std},oT s->(o∈ep f z d s↔ne s o/\(∀b,(s.a b||iU d b)=false->o.a b=0)/\cS f o z=true/\∀l∈d,l.neg=false->∃q∈f,re o l.atom q)
 |[],s,n=>by
  rw[ep]
  constructor
  .intro r
   split at r
   .rename_i hb
    rw[List.mem_singleton] at r
    subst r
    exact⟨λ_ _=>rfl,λb m=>n b (by simpa[iU] using m),hb,Q1⟩
   cases r
  rintro⟨B,C,D,_⟩
  have:o=s.v:=Hs λw=>by
   cases e:s.a w
   .rw[C w (by simp[e,iU]),n w e]
   exact B w e
  subst this
  rw[if_pos D]
  simp
 |l::d,s,n=>by
  rw[ep]
  cases t:l.neg
  .rw[if_neg Q1,List.mem_flatMap]
   have u:∀b,iU (l::d) b=(lC l.atom.args b||iU d b):=λb=>by unfold iU;rw[any_cons,t];simp
   constructor
   .rintro⟨q,y,x⟩
    split at x
    .rename_i A j
     obtain⟨g,h,i,c⟩:=(ri (tJ j n)).1 x
     obtain⟨G,H⟩:=wE.1 ⟨A,j,g⟩
     refine⟨G,λb m=>h b ?_,i,?_⟩
     .rw[u] at m
      rw[AD j,Bool.or_assoc]
      exact m
     intro k hl' p
     rcases mem_cons.1 hl' with rfl|hl'
     .exact⟨q,y,H⟩
     exact c k hl' p
    cases x
   rintro⟨g,h,i,c⟩
   obtain⟨q,y,F⟩:=c l Q1 t
   obtain⟨A,j,E⟩:=wE.2 ⟨g,F⟩
   refine⟨q,y,?_⟩
   rw[j]
   refine(ri (tJ j n)).2 ⟨E,λb m=>h b ?_,i,λk hl'=>c k (by simp[hl'])⟩
   rw[u,<-Bool.or_assoc,<-AD j]
   exact m
  rw[if_pos rfl,ri n]
  have u:∀b,iU (l::d) b=iU d b:=λb=>by unfold iU;rw[any_cons,t];simp
  simp only[u]
  constructor
  .rintro⟨g,h,i,c⟩
   refine⟨g,h,i,λk hl' p=>?_⟩
   rcases mem_cons.1 hl' with rfl|hl'
   .rw[t] at p;cases p
   exact c k hl' p
  rintro⟨g,h,i,c⟩
  exact⟨g,h,i,λk hl'=>c k (by simp[hl'])⟩
theorem Hg{d c f}(h:re d c f)(j:(1<=c.args.length\/f.a=0)/\(2<=c.args.length\/f.b=0)):bL (cv d c)=bL f:=by
 obtain⟨k,i⟩:=h
 have l:bZ d c.args 0=f.a:=by
  unfold bZ;cases e:c.args[0]? with
  |none=>have:=List.getElem?_eq_none_iff.1 e;rcases j.1 with h|h;omega;exact h.symm
  |some g=>exact i 0 g e
 have m:bZ d c.args 1=f.b:=by
  unfold bZ;cases e:c.args[1]? with
  |none=>have:=List.getElem?_eq_none_iff.1 e;rcases j.2 with h|h;omega;exact h.symm
  |some g=>exact i 1 g e
 show(c.pred*5+bZ d c.args 0)*5+bZ d c.args 1=_;rw[l,m,k];rfl
theorem Hb{i d c f}(n:cf i c=0)(p:iE i=true)(q:cT d=true)(r:cw i f=true)(m:bL f=bL (cv d c))(t:c.args.length<=2):re d c f:=by
 have o:=(nS n p q).2;obtain⟨j,k,l⟩:=pF (iC r) (iC o) m;refine⟨j.symm,λh u g=>?_⟩;have s:h<2:=by have:=(List.getElem?_eq_some_iff.1 g).1;omega
 obtain rfl|rfl:h=0\/h=1:=Q0
 .show _=f.a;rw[k];show _=bZ d c.args 0;unfold bZ;rw[g];rfl
 show _=f.b;rw[l];show _=bZ d c.args 1;unfold bZ;rw[g];rfl
theorem we{c b}(a:cf c b=0)(d:iE c=true):(b.args.length:Int)=dN c b.pred/\b.args.length<=2:=by
 unfold cf at a;split at a
 .rename_i h1;split at a
  .rename_i h2;have:=kE.1 (rj d h1).2;exact⟨Q0,Q0⟩
  cases a
 cases a
theorem tD{f c}(d:cw f c=true):bQ c.a 0 4=true/\bQ c.b 0 4=true/\(1<=dN f c.pred\/c.a=0)/\(2<=dN f c.pred\/c.b=0):=by
 unfold cw at d;simp only[and_eq_true,Bool.or_eq_true,decide_eq_true_eq,beq_iff_eq] at d;exact⟨d.2.1,d.2.2.1,d.2.2.2.1,d.2.2.2.2.1⟩
theorem tF{f k j}(a:bW j f=0):∀{b:List Ltr} {s:Std},oT s->(∀l∈b,cf j l.atom=0)->(ep f k b s).Nodup
 |[],s,_,_=>by
  rw[ep]
  split<;>simp
 |l::b,s,i,m=>by
  rw[ep]
  have n:∀l∈b,cf j l.atom=0:=λA h=>m A RM
  split
  .exact tF a i n
  rw[List.Nodup,List.pairwise_flatMap]
  have v:=cG a
  refine⟨λt p=>?_,?_⟩
  .split
   .rename_i c hs'
    exact tF a (tJ hs' i) n
   exact List.Pairwise.nil
  refine List.Pairwise.imp_of_mem ?_ v.sorted
  intro t D p y H r w I x e
  subst e
  have q:∀d∈f,r∈(match gd s l.atom d with|some c=>ep f k b c|none=>[])->bL (cv r l.atom)=bL d:=λd z g=>by
   split at g
   .rename_i c hs'
    obtain⟨u,_⟩:=(ri (tJ hs' i)).1 g
    have o:=(wE.1 ⟨c,hs',u⟩).2
    have G:=we (m l Q1) (eR a).2.1
    obtain⟨_,_,B,C⟩:=tD (kA a d z)
    rw[<-o.1] at B C
    exact Hg o ⟨Q0,Q0⟩
   cases g
  have E:=q t p w
  have F:=q D y x
  omega
theorem GW{d}(f:d.all db=true){a}(h:a=0\/a=1\/a=2):lC d a=ff d a:=by
 unfold lC ff;rw[all_eq_true] at f;induction d with
 |nil=>rfl
 |cons b d ih=>
  rw[any_cons,any_cons,ih λb c=>f b (by simp[c])];have c:=f b Q1;congr 1;unfold lM;cases g:b.var
  .rfl
  unfold db at c;rw[if_pos g] at c;have:=kE.1 c;rw[Bool.true_and,Bool.true_and];unfold fE;by_cases e:b.n=a
  .subst e;simp
  have:¬((if a=0 then 0 else if a=1 then 1 else 2:Nat)=if b.n=0 then 0 else if b.n=1 then 1 else 2):=by
   split<;>split<;>(try split)<;>(try split)<;>omega
  rw[decide_eq_false this];simpa using e
theorem Au{o c}(d:cx o c=0){a}(l:a=0\/a=1\/a=2):iU c.body a=dj c a:=by
 obtain⟨n,j,_⟩:=f_ d
 have e:iU c.body a=jQ c a:=by
  unfold iU jQ
  have:∀b∈c.body,(!b.neg&&lC b.atom.args a)=k8 a b:=λb f=>by
   unfold k8;rw[GW (gP (j b f)).2 l]
  clear n d j;generalize c.body=m at this⊢;induction m with
  |nil=>rfl
  |cons b m ih=>rw[any_cons,any_cons,this b Q1,ih λb f=>this b (by simp[f])]
 have h:eW c a=false:=by
  rw[cx] at d;split at d
  .contradiction
  split at d
  .contradiction
  split at d
  .contradiction
  split at d
  .contradiction
  rename_i hf;simp only[Bool.or_eq_true,not_or,Bool.not_eq_true] at hf;rcases l with rfl|rfl|rfl
  .exact hf.1
  .exact hf.2.1
  exact hf.2.2
 rw[e];unfold eW at h;cases g:dj c a
 .cases k:jQ c a
  .rfl
  exfalso;unfold dj at g;rw[Bool.or_eq_false_iff] at g;unfold jQ at k;obtain⟨b,f,i⟩:=any_eq_true.1 k;unfold k8 at i;rw[and_eq_true] at i;have:=List.any_eq_false.1 g.2 b f;exact this i.2
 rw[g] at h;simpa using h
def pG(f:List Fct)(r:Rul)(v:ae):Prop:=cT v=true/\cS f v r.body=true/\(∀m,(m=0\/m=1\/m=2)->dj r m=false->v.a m=0)
theorem wy:oT jp:=λn _=>by
 unfold ae.a jp
 split
 .rfl
 split<;>rfl
theorem Hm(c):ne jp c:=λn b=>by
 unfold Std.a jp at b
 split at b
 .cases b
 split at b<;>cases b
theorem Hc(a){b n}(c:fE b=fE n):iU a b=iU a n:=by
 unfold iU lC;rw[c]
theorem Hh(a):∃n:Int,(n=0\/n=1\/n=2)/\fE a=fE n:=by
 by_cases b:a=0
 .exact⟨0,.inl rfl,by rw[b]⟩
 by_cases c:a=1
 .exact⟨1,.inr (.inl rfl),by rw[c]⟩
 exact⟨2,.inr (.inr rfl),by unfold fE;rw[if_neg b,if_neg c];rfl⟩
theorem wu{y f h}(s:cx y h=0)(r:bW y f=0)(c):c∈ep f h.body h.body jp↔pG f h c:=by
 obtain⟨_,v,_⟩:=f_ s;have x:=(eR r).2.1;rw[ri wy];constructor
 .rintro⟨_,B,C,D⟩
  have u:∀b,iU h.body b=false->c.a b=0:=λb d=>B b (by
   have:jp.a b=false:=by unfold Std.a jp;split;rfl;split<;>rfl
   rw[this,d];rfl)
  have q:∀b,bQ (c.a b) 0 4=true:=λb=>by
   cases e:iU h.body b
   .rw[u b e];rfl
   unfold iU at e;obtain⟨j,i,k⟩:=any_eq_true.1 e;rw[and_eq_true,Bool.not_eq_true'] at k;obtain⟨p,m,g⟩:=D j i k.1;unfold lC at k;obtain⟨M,H,t⟩:=any_eq_true.1 k.2;obtain⟨K,F⟩:=List.mem_iff_getElem?.1 H;have:=g.2 K M F;rw[and_eq_true,decide_eq_true_eq] at t;unfold fJ at this;rw[if_pos t.1] at this;rw[wa c t.2,this];obtain⟨n,o,_⟩:=tD (kA r p m);unfold jH;split
   .exact n
   exact o
  refine⟨?_,C,λb d E=>u b (by rw[Au s d,E])⟩;unfold cT;have z:=q 0;have n:=q 1;have o:=q 2;simp only[ae.a] at z n o;rw[and_eq_true,and_eq_true];exact⟨by simpa using z,by simpa using n,by simpa using o⟩
 rintro⟨J,w,A⟩;refine⟨Hm c,λb d=>?_,w,λj i l=>?_⟩
 .rw[Bool.or_eq_false_iff] at d;obtain⟨L,l,g⟩:=Hh b;rw[wa c g];refine A L l ?_;rw[<-Au s l,<-Hc _ g];exact d.2
 have:=all_eq_true.1 w j i;unfold lD kD at this;rw[l] at this;have g:=by simpa using this
 obtain⟨N,I⟩:=Option.isSome_iff_exists.1 g;obtain⟨p,m,G,_⟩:=mD I;exact⟨p,m,Hb (v j i) x J (kA r p m) G (we (v j i) x).2⟩
structure aH (w:World) (s:Std) (x:Fct) (wr:World):Prop where
 below:Below w w wr
 size:w.heap.size+1+1+1+1<wr.heap.size
 s0:wr.cell? w=some (.int .i64 s.v.x)
 s1:wr.cell? ⟨w,1,none⟩=some (.int .i64 s.v.y)
 s2:wr.cell? ⟨w,2,none⟩=some (.int .i64 s.v.z)
 s3:wr.cell? ⟨w,3,none⟩=some (.bool s.bx)
 s4:wr.cell? ⟨w,4,none⟩=some (.bool s.bq)
 s5:wr.cell? ⟨w,5,none⟩=some (.bool s.bz)
 sf:∀o,wr.frozen? ⟨w,o,none⟩=false
 r0:wr.cell? ⟨w.heap.size+1+1+1,0,none⟩=some (.int .i64 0)
 r1:wr.cell? ⟨w.heap.size+1+1+1,1,none⟩=some (.int .i64 0)
 r2:wr.cell? ⟨w.heap.size+1+1+1,2,none⟩=some (.int .i64 0)
 r3:wr.cell? ⟨w.heap.size+1+1+1,3,none⟩=some (.bool false)
 r4:wr.cell? ⟨w.heap.size+1+1+1,4,none⟩=some (.bool false)
 r5:wr.cell? ⟨w.heap.size+1+1+1,5,none⟩=some (.bool false)
 rf:∀o,wr.frozen? ⟨w.heap.size+1+1+1,o,none⟩=false
 a0:wr.cell? ⟨w.heap.size+1+1+1+1,0,none⟩=some (.int .i64 x.a)
 a1:wr.cell? ⟨w.heap.size+1+1+1+1,1,none⟩=some (.int .i64 x.b)
theorem aH.a{d:World}{s g}{wr f:World}(b:aH d s g wr)(c:Below wr wr f):aH d s g f:=by
 have i:=b.size;have j:=c.size
 exact⟨b.below.trans (c.mono b.below.size),Q0,by rw[bF c Q0,b.s0],by rw[bF c Q0,b.s1],by rw[bF c Q0,b.s2],by rw[bF c Q0,b.s3],by rw[bF c Q0,b.s4],by rw[bF c Q0,b.s5],λh=>by rw[(fR c).2 _ _ Q0,b.sf],
  by rw[bF c Q0,b.r0],by rw[bF c Q0,b.r1],by rw[bF c Q0,b.r2],by rw[bF c Q0,b.r3],by rw[bF c Q0,b.r4],by rw[bF c Q0,b.r5],λh=>by rw[(fR c).2 _ _ Q0,b.rf],
  by rw[bF c Q0,b.a0],by rw[bF c Q0,b.a1]⟩
theorem aH.b{d:World}{s j}{wr:World}(a:aH d s j wr)(n:Nat)(u:n<3)(g:Int):aH d (s.b n g) j ((wr.setCell ⟨d,n,none⟩ g).setCell ⟨d,3+n,none⟩ (.bool true)):=by
 have q:=a.size;have e:∀f c,f≠d.heap.size->((wr.setCell ⟨d,n,none⟩ g).setCell ⟨d,3+n,none⟩ (.bool true)).cell? ⟨f,c,none⟩=wr.cell? ⟨f,c,none⟩:=λf c t=>by rw[cb Q0,cb Q0]
 have m:∀f c,((wr.setCell ⟨d,n,none⟩ g).setCell ⟨d,3+n,none⟩ (.bool true)).frozen? ⟨f,c,none⟩=wr.frozen? ⟨f,c,none⟩:=λf c=>by rw[gI,gI]
 have r:((wr.setCell ⟨d,n,none⟩ g).setCell ⟨d,3+n,none⟩ (.bool true)).heap.size=wr.heap.size:=by rw[cF,cF]
 have o:Below d d ((wr.setCell ⟨d,n,none⟩ g).setCell ⟨d,3+n,none⟩ (.bool true)):=(a.below.setCell (le_refl _) _).setCell (le_refl _) _
 have p:∀c,((wr.setCell ⟨d,n,none⟩ g).setCell ⟨d,3+n,none⟩ (.bool true)).cell? ⟨d,c,none⟩=if c=3+n then(wr.cell? ⟨d,c,none⟩).map (λ_=>.bool true) else if c=n then(wr.cell? ⟨d,c,none⟩).map (λ_=>.int .i64 g) else wr.cell? ⟨d,c,none⟩:=λc=>by
  by_cases k:c=3+n
  .subst k;rw[if_pos rfl]
   have:∃h,wr.cell? ⟨d,3+n,none⟩=some h:=by
    obtain rfl|rfl|rfl:n=0\/n=1\/n=2:=Q0
    .exact⟨_,a.s3⟩
    .exact⟨_,a.s4⟩
    exact⟨_,a.s5⟩
   obtain⟨h,i⟩:=this;rw[i];refine fC (x:=h) ?_;rw[cP Q0];exact i
  rw[if_neg k,cP Q0];by_cases l:c=n
  .subst l;rw[if_pos rfl]
   have:∃h,wr.cell? ⟨d,c,none⟩=some h:=by
    obtain rfl|rfl|rfl:c=0\/c=1\/c=2:=Q0
    .exact⟨_,a.s0⟩
    .exact⟨_,a.s1⟩
    exact⟨_,a.s2⟩
   obtain⟨h,i⟩:=this;rw[i];exact fC i
  rw[if_neg l,cP Q0]
 refine⟨o,by rw[r];exact q,?_,?_,?_,?_,?_,?_,λc=>by rw[m,a.sf],by rw[e _ _ Q0,a.r0],by rw[e _ _ Q0,a.r1],by rw[e _ _ Q0,a.r2],by rw[e _ _ Q0,a.r3],by rw[e _ _ Q0,a.r4],by rw[e _ _ Q0,a.r5],λc=>by rw[m,a.rf],by rw[e _ _ Q0,a.a0],by rw[e _ _ Q0,a.a1]⟩
 all_goals
  rw[p];first|rw[a.s0]|rw[a.s1]|rw[a.s2]|rw[a.s3]|rw[a.s4]|rw[a.s5]
  obtain rfl|rfl|rfl:n=0\/n=1\/n=2:=Q0;all_goals rfl
theorem Ac{a wr:World}(c:Below a a wr)(d f g h i j):Below a a ((((((wr.setCell ⟨a.heap.size+1+1+1,0,none⟩ d).setCell ⟨a.heap.size+1+1+1,1,none⟩ f).setCell ⟨a.heap.size+1+1+1,2,none⟩ g).setCell ⟨a.heap.size+1+1+1,3,none⟩ h).setCell ⟨a.heap.size+1+1+1,4,none⟩ i).setCell ⟨a.heap.size+1+1+1,5,none⟩ j):=by
 have e:∀b,a.heap.size<=(⟨a.heap.size+1+1+1,b,none⟩:Addr).block:=λb=>by show a.heap.size<=a.heap.size+1+1+1;omega
 exact(((((c.setCell (e _) _).setCell (e _) _).setCell (e _) _).setCell (e _) _).setCell (e _) _).setCell (e _) _
theorem GY{f:Fct}{s:Std}{d:List Tm}{c:Nat}(g:c<d.length):ez f s (d.drop c) c=if d[c].var=true/\s.a d[c].n=false then ez f (s.b d[c].n (jH f c)) (d.drop (c+1)) (c+1) else if fJ s.v d[c]=jH f c then ez f s (d.drop (c+1)) (c+1) else none:=by
 rw[List.drop_eq_getElem_cons g,ez]
theorem Vt(h:p:=by simp[intOf];omega):p:=h
theorem Vu(h:p:=by simpa using e):p:=h
theorem Vv(h:p:=by simp[results,results244,go_sem,r0,r1,r2,r3,r4,r5,z3]):p:=h
theorem Vw(h:p:=by rw[HL'.out] at ht;cases ht):p:=h
theorem Vx(h:p:=by rw[cF,cF,cF,cF,cF,cF];omega):p:=h
theorem Vy(h:p:=by rw[<-hW2];exact HRA _):p:=h
theorem Vz(h:p:=by rw[<-hW2];simp[go_sem]):p:=h
theorem VA(h:p:=by rw[<-hW2];exact(bF (bH _ _) hsz).trans haj):p:=h
theorem VB(h:p:=by rw[<-hW3];exact(cb (by omega)).trans ((cb (by omega)).trans t1)):p:=h
theorem VC(h:p:=by rw[<-hW3];exact(cb (by omega)).trans ((cb (by omega)).trans t0)):p:=h
theorem VD(h:p:=by rw[<-hW3];exact(cb (by omega)).trans ((cb (by omega)).trans haj2)):p:=h
theorem VE(h:p:=by have:=h.2;simp[Std.a,hbd] at this):p:=h
theorem VF(h:p:=by rw[HL'.out,hbd];rfl):p:=h
theorem Z3(h:p:=by
 show _=_
 rw[HW.out,hlay.out,HL.out,if_neg hnb,if_neg (λq=>e (hat.symm.trans q))]):p:=h
theorem aad(h:p:=by
 go_wp2_with fail
 exact⟨⟨j+1,st,Q0,Rv,HL',HRA _⟩,Vt⟩):p:=h
theorem aat(h:p:=by
 show _=_
 rw[hlay.out,HL.out,if_neg hnb,if_pos (hat.trans e)]):p:=h
theorem aaT(h:p:=by refine(HBS _ _ _ _ _ _).alloc Vx _):p:=h
theorem aa0(h:p:=by
 show _=_
 rw[hlay.out,HL.out,if_pos ⟨rfl,hbd⟩]):p:=h
theorem Hu(f:World)(s t Q R c)(aq:cr f (.slice Q t.args R) t.args)(az:t.args.length<=2)(ht:t.args.all db=true):Calls prog 244 #[.agg #[s.v.x,s.v.y,s.v.z,.bool s.bx,.bool s.bq,.bool s.bz],.agg #[t.pred,.slice Q t.args R],.agg #[c.pred,c.a,c.b,c.val]] f λe av=>(∃B:Std,e=.returned (.tuple #[.agg #[B.v.x,B.v.y,B.v.z,.bool B.bx,.bool B.bq,.bool B.bz],.bool (gd s t c).isSome])/\∀m,gd s t c=some m->B=m)/\Below f f av:=by
 obtain⟨ao,ap,he,aB,G⟩:=aq;obtain⟨rfl,rfl⟩:Q=ao/\R=ap:=Ro;clear he;have aa:=hid_ G;have Y:=hid_ (all_eq_true.1 ht);clear G ht;obtain⟨u,d⟩:=t;dsimp only at*;by_cases U:u=c.pred
 .have HW:Hid (gd s ⟨u,d⟩ c=ez c s d 0):=by show _=_;rw[gd,if_pos U]
  have aA:(d.length:Int)<=2:=Q0;go_enter func244,ntmps244;go_wp2_with fail;go_loopw [26] (λX wr=>∃(j:Nat) (m:Std),j<=d.length/\X=.int .i64 j/\Hid (ez c s d 0=ez c m (d.drop j) j)/\aH f m c wr) (λX _=>d.length-(intOf X).toNat)
  case atStart=>
   exact⟨0,s,zero_le _,rfl,rfl,(((((Below.refl _ _).alloc (le_refl _) _).alloc Q1 _).alloc RD _).alloc RD _).alloc RD _,Q1,Re,Re,Re,Re,Re,Re,Sk,Re,Re,Re,Re,Re,Re,Sk,Re,Re⟩
  obtain⟨j,st,ax,rfl,hlay,F⟩:=hrel;by_cases hlt:j<d.length
  .obtain⟨ab,ag,rfl,ad,G⟩:=aa.out.resolve_left Rt;obtain⟨ae,af⟩:=G j d[j] Ru;have V:wr.cell? ⟨ab,ag+j*2,none⟩=some (.bool d[j].var):=by rw[bF F.below ad,ae]
   have W:wr.cell? ⟨ab,ag+j*2+1,none⟩=some (.int .i64 d[j].n):=by rw[bF F.below ad,af]
   have Z:=hid_ (Y _ (getElem_mem hlt));have HL:Hid (ez c st (d.drop j) j=if d[j].var=true/\st.a d[j].n=false then ez c (st.b d[j].n (jH c j)) (d.drop (j+1)) (j+1) else if fJ st.v d[j]=jH c j then ez c st (d.drop (j+1)) (j+1) else none):=GY hlt;clear G ae af aa Y;generalize d[j]=m at*;obtain⟨au,r⟩:=m;dsimp only at*;have L:=hid_ F;obtain⟨T,hsz,H,I,J,C,D,E,N,r0,r1,r2,r3,r4,r5,M,O,P⟩:=F;have HRA:Hid (∀o,aH f st c (wr.alloc o)):=λo=>L.out.a (bH _ _);have aD:f.heap.size<wr.heap.size:=Q0;have z3:f.heap.size+1+1+1<wr.heap.size:=Q0;have ay:(j:Int)<2:=Q0
   have haj:wr.cell? ⟨f.heap.size+1+1+1+1,j,none⟩=some (.int .i64 (jH c j)):=by
    obtain rfl|rfl:j=0\/j=1:=Q0
    .exact O
    exact P
   clear O P;generalize jH c j=g at*;have HBS:Hid (∀A ak al p am an,Below f f ((((((wr.setCell ⟨f.heap.size+1+1+1,0,none⟩ A).setCell ⟨f.heap.size+1+1+1,1,none⟩ ak).setCell ⟨f.heap.size+1+1+1,2,none⟩ al).setCell ⟨f.heap.size+1+1+1,3,none⟩ p).setCell ⟨f.heap.size+1+1+1,4,none⟩ am).setCell ⟨f.heap.size+1+1+1,5,none⟩ an)):=λA ak al p am an=>Ac T _ _ _ _ _ _;cases au
   .by_cases e:r=g
    .subst e
     have HL':Hid (ez c s d 0=ez c st (d.drop (j+1)) (j+1)):=by
      show _=_;rw[hlay.out,HL.out,if_neg Q1,if_pos (show fJ st.v ⟨false,r⟩=r from rfl)]
     clear hlay HL;exact aad
    have S:(r==g)=false:=Vu
    have HL':Hid (gd s ⟨u,d⟩ c=none):=by
     show _=_;rw[HW.out,hlay.out,HL.out,if_neg Q1,if_neg (show¬fJ st.v ⟨false,r⟩=g from e)]
    clear hlay HL;go_wp2_with fail;refine bodyPost_ret (v:=.tuple #[.agg #[st.v.x,st.v.y,st.v.z,.bool st.bx,.bool st.bq,.bool st.bz],.bool false]) Vv rfl ⟨⟨st,by rw[HL'.out];rfl,λm ht=>Vw⟩,?_⟩;exact aaT
   have ar:r=0\/r=1\/r=2:=by
    have h:=Z.out;unfold db at h;rw[if_pos rfl] at h;have aw:0<=r/\r<=2:=kE.1 h;omega
   clear Z;rcases ar with rfl|rfl|rfl
   .cases hbd:st.bx
    .have HL':Hid (ez c s d 0=ez c (st.b 0 g) (d.drop (j+1)) (j+1)):=by
      exact aa0
     clear hlay HL;rw[hbd] at C;go_wp2_with fail;obtain⟨k,hW2⟩:=ex_ (wr.alloc (.cells #[.bool true,.int .i64 0] 100));have i:Hid (aH f st c k):=Vy;have t1:k.cell? ⟨wr,1,none⟩=some (.int .i64 0):=Vz;have t0:k.cell? wr=some (.bool true):=Vz;have haj2:k.cell? ⟨f.heap.size+1+1+1+1,j,none⟩=some (.int .i64 g):=VA;rw[hW2];have A:=i.out.s0;have p:=i.out.s3;rw[hbd] at p;have K:=i.out.sf;clear hW2 V W H I J C D E N r0 r1 r2 r3 r4 r5 M haj HRA L HBS;go_region;obtain⟨l,hW3⟩:=ex_ (((k.setCell f g).setCell ⟨f,3,none⟩ (.bool true)).drew);have w:Hid (aH f (st.b 0 g) c l):=by rw[<-hW3];exact(i.out.b 0 Q0 g).a ((Below.refl _ _).drew)
     have ai:l.cell? ⟨wr,1,none⟩=some (.int .i64 0):=VB;have ah:l.cell? wr=some (.bool true):=VC;have ac:l.cell? ⟨f.heap.size+1+1+1+1,j,none⟩=some (.int .i64 g):=VD;have aj:l.cell? f=some (.int .i64 g):=w.out.s0;rw[hW3];clear hW3 t0 t1 haj2 A p K i;go_wp2_with fail;exact⟨⟨j+1,st.b 0 g,Q0,Rv,HL',w.out⟩,Vt⟩
    have hnb:¬((true=true)/\st.a 0=false):=λh=>VE;have hat:fJ st.v ⟨true,0⟩=st.v.x:=rfl;rw[hbd] at C;by_cases e:st.v.x=g
    .have HL':Hid (ez c s d 0=ez c st (d.drop (j+1)) (j+1)):=by
      exact aat
     clear hlay HL hnb hat;rw[e] at H;exact aad
    have S:(st.v.x==g)=false:=Vu
    have HL':Hid (gd s ⟨u,d⟩ c=none):=by
     exact Z3
    clear hlay HL hnb hat;go_wp2_with fail;refine bodyPost_ret (v:=.tuple #[.agg #[st.v.x,st.v.y,st.v.z,.bool true,.bool st.bq,.bool st.bz],.bool false]) Vv rfl ⟨⟨st,VF,λm ht=>Vw⟩,?_⟩;exact aaT
   .cases hbd:st.bq
    .have HL':Hid (ez c s d 0=ez c (st.b 1 g) (d.drop (j+1)) (j+1)):=by
      exact aa0
     clear hlay HL;rw[hbd] at D;go_wp2_with fail;obtain⟨k,hW2⟩:=ex_ (wr.alloc (.cells #[.bool true,.int .i64 1] 100));have i:Hid (aH f st c k):=Vy;have t1:k.cell? ⟨wr,1,none⟩=some (.int .i64 1):=Vz;have t0:k.cell? wr=some (.bool true):=Vz;have haj2:k.cell? ⟨f.heap.size+1+1+1+1,j,none⟩=some (.int .i64 g):=VA;rw[hW2];have A:=i.out.s1;have p:=i.out.s4;rw[hbd] at p;have K:=i.out.sf;clear hW2 V W H I J C D E N r0 r1 r2 r3 r4 r5 M haj HRA L HBS;go_region;obtain⟨l,hW3⟩:=ex_ (((k.setCell ⟨f,1,none⟩ g).setCell ⟨f,4,none⟩ (.bool true)).drew);have w:Hid (aH f (st.b 1 g) c l):=by rw[<-hW3];exact(i.out.b 1 Q0 g).a ((Below.refl _ _).drew)
     have ai:l.cell? ⟨wr,1,none⟩=some (.int .i64 1):=VB;have ah:l.cell? wr=some (.bool true):=VC;have ac:l.cell? ⟨f.heap.size+1+1+1+1,j,none⟩=some (.int .i64 g):=VD;have aj:l.cell? ⟨f,1,none⟩=some (.int .i64 g):=w.out.s1;rw[hW3];clear hW3 t0 t1 haj2 A p K i;go_wp2_with fail;exact⟨⟨j+1,st.b 1 g,Q0,Rv,HL',w.out⟩,Vt⟩
    have hnb:¬((true=true)/\st.a 1=false):=λh=>VE;have hat:fJ st.v ⟨true,1⟩=st.v.y:=rfl;rw[hbd] at D;by_cases e:st.v.y=g
    .have HL':Hid (ez c s d 0=ez c st (d.drop (j+1)) (j+1)):=by
      exact aat
     clear hlay HL hnb hat;rw[e] at I;exact aad
    have S:(st.v.y==g)=false:=Vu
    have HL':Hid (gd s ⟨u,d⟩ c=none):=by
     exact Z3
    clear hlay HL hnb hat;go_wp2_with fail;refine bodyPost_ret (v:=.tuple #[.agg #[st.v.x,st.v.y,st.v.z,.bool st.bx,.bool true,.bool st.bz],.bool false]) Vv rfl ⟨⟨st,VF,λm ht=>Vw⟩,?_⟩;exact aaT
   cases hbd:st.bz
   .have HL':Hid (ez c s d 0=ez c (st.b 2 g) (d.drop (j+1)) (j+1)):=by
     exact aa0
    clear hlay HL;rw[hbd] at E;go_wp2_with fail;obtain⟨k,hW2⟩:=ex_ (wr.alloc (.cells #[.bool true,.int .i64 2] 100));have i:Hid (aH f st c k):=Vy;have t1:k.cell? ⟨wr,1,none⟩=some (.int .i64 2):=Vz;have t0:k.cell? wr=some (.bool true):=Vz;have haj2:k.cell? ⟨f.heap.size+1+1+1+1,j,none⟩=some (.int .i64 g):=VA;rw[hW2];have A:=i.out.s2;have p:=i.out.s5;rw[hbd] at p;have K:=i.out.sf;clear hW2 V W H I J C D E N r0 r1 r2 r3 r4 r5 M haj HRA L HBS;go_region;obtain⟨l,hW3⟩:=ex_ (((k.setCell ⟨f,2,none⟩ g).setCell ⟨f,5,none⟩ (.bool true)).drew);have w:Hid (aH f (st.b 2 g) c l):=by rw[<-hW3];exact(i.out.b 2 Q0 g).a ((Below.refl _ _).drew)
    have ai:l.cell? ⟨wr,1,none⟩=some (.int .i64 2):=VB;have ah:l.cell? wr=some (.bool true):=VC;have ac:l.cell? ⟨f.heap.size+1+1+1+1,j,none⟩=some (.int .i64 g):=VD;have aj:l.cell? ⟨f,2,none⟩=some (.int .i64 g):=w.out.s2;rw[hW3];clear hW3 t0 t1 haj2 A p K i;go_wp2_with fail;exact⟨⟨j+1,st.b 2 g,Q0,Rv,HL',w.out⟩,Vt⟩
   have hnb:¬((true=true)/\st.a 2=false):=λh=>VE;have hat:fJ st.v ⟨true,2⟩=st.v.z:=rfl;rw[hbd] at E;by_cases e:st.v.z=g
   .have HL':Hid (ez c s d 0=ez c st (d.drop (j+1)) (j+1)):=by
     exact aat
    clear hlay HL hnb hat;rw[e] at J;exact aad
   have S:(st.v.z==g)=false:=Vu
   have HL':Hid (gd s ⟨u,d⟩ c=none):=by
    exact Z3
   clear hlay HL hnb hat;go_wp2_with fail;refine bodyPost_ret (v:=.tuple #[.agg #[st.v.x,st.v.y,st.v.z,.bool st.bx,.bool st.bq,.bool true],.bool false]) Vv rfl ⟨⟨st,VF,λm ht=>Vw⟩,?_⟩;exact aaT
  obtain rfl:j=d.length:=Q0
  have HL':Hid (gd s ⟨u,d⟩ c=some st):=by
   show _=_;rw[HW.out,hlay.out,List.drop_length,ez]
  clear HW hlay;obtain⟨T,hsz,H,I,J,C,D,E,N,r0,r1,r2,r3,r4,r5,M,O,P⟩:=F;go_wp2_with fail;refine bodyPost_ret (v:=.tuple #[.agg #[st.v.x,st.v.y,st.v.z,.bool st.bx,.bool st.bq,.bool st.bz],.bool true]) (by simp[results,results244,go_sem,r0,r1,r2,r3,r4,r5]) rfl ⟨⟨st,by rw[HL'.out];rfl,λm ht=>by rw[HL'.out] at ht;cases ht;rfl⟩,?_⟩;exact Ac T _ _ _ _ _ _
 have HW:Hid (gd s ⟨u,d⟩ c=none):=by show _=_;rw[gd,if_neg U]
 have aC:(u==c.pred)=false:=by simpa using U
 go_enter func244,ntmps244;go_wp2_with fail;refine bodyPost_ret (v:=.tuple #[.agg #[s.v.x,s.v.y,s.v.z,.bool s.bx,.bool s.bq,.bool s.bz],.bool false]) (by simp[results,results244,go_sem]) rfl ⟨⟨s,by rw[HW.out];rfl,λm ht=>by rw[HW.out] at ht;cases ht⟩,?_⟩;exact(((((Below.refl _ _).alloc (le_refl _) _).alloc Q1 _).alloc RD _).alloc RD _)
deriving instance DecidableEq for Fct
