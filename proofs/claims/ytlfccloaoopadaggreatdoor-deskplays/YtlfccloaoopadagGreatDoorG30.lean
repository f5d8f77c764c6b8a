import Derived.Test.YtlfccloaoopadagGreatDoorG10
import Derived.Test.YtlfccloaoopadagGreatDoorG13
open Go.Proofs.Tryz
set_option maxRecDepth 100000
set_option maxHeartbeats 0
open Nat (le_refl le_trans lt_of_lt_of_le zero_le)
open List (getElem_mem length_set)
namespace Go.Proofs.YtlfccloaoopadagGreatDoor
open Go.ChangeShapes Go.WideShapes Go.ChangeAt Go.RowKit
variable{p:Prop}
theorem zH(k):cp k 0=if bQ k 0 3 then 0 else 4:=by
 have b:¬((0:Int)<0\/jq k<0):=by
  unfold jq;split<;>omega
 unfold cp;by_cases a:0<=k/\k<=3
 .rw[if_neg Q0,if_neg b,if_pos (by simpa[bQ] using a)]
 rw[if_pos Q0,if_neg (by simpa[bQ] using a)]
theorem aft(h:p:=by
 go_enter func178,ntmps178
 go_wp2_with(go_at_call 179;refine mq_ (iH _ _ _) ?_)
 exact ad2):p:=h
theorem Gm(b)(d:World):Calls prog 178 #[fS b] d λe h=>e=.returned (.bool (!jn b))/\Below d d h:=by
 obtain⟨k,a,c⟩:=b;simp only[fS,jn];cases f:bQ c 0 3
 .have g:cp c 0=4:=by rw[zH,f];rfl
  exact aft
 have g:cp c 0=0:=by rw[zH,f];rfl
 by_cases i:a<0
 .have e:bQ a 0 2=false:=Rs;rw[e];exact aft
 by_cases j:2<a
 .have e:bQ a 0 2=false:=Rs;rw[e];exact aft
 have e:bQ a 0 2=true:=Rs;rw[e];go_enter func178,ntmps178;go_wp2_with(go_at_call 179;refine mq_ (iH _ _ _) ?_);go_ret;exact⟨RD,bH _ _⟩
theorem F6:∀a b,(callFunc 178 a).run prog b=.ok (.enter 178 a) b:=enters_of func178 SI rfl
theorem zz(a):a.any (λb=> !jn b)= !iE a:=by
 rw[iE,List.not_all_eq_any_not]
theorem Uk(h:p:=by rw[bF (bH _ _) s2];exact u0):p:=h
theorem Ul(h:p:=by rw[bF (bH _ _) s2];exact u1):p:=h
theorem Um(h:p:=by rw[bF (bH _ _) s2];exact u2):p:=h
theorem Un(h:p:=by rw[bF (bH _ _) s2];exact u3):p:=h
theorem ae2(h:p:=by
 go_wp2_with fail
 refine lA (λw'=>Below w w w'/\Below wr wr w'/\wr.heap.size<w'.heap.size/\w'.cell? wr=some (.int .i64 yp)/\w'.cell? ⟨wr,1,none⟩=some (.int .i64 ya)/\w'.cell? ⟨wr,2,none⟩=some (.int .i64 yb)/\w'.cell? ⟨wr,3,none⟩=some (.int .i64 yv)/\w'.cell? ⟨bb,off+i*4,none⟩=some (.int .i64 zp)/\w'.cell? ⟨bb,off+i*4+1,none⟩=some (.int .i64 za)/\w'.cell? ⟨bb,off+i*4+2,none⟩=some (.int .i64 zb)/\w'.cell? ⟨bb,off+i*4+3,none⟩=some (.int .i64 zv)) ⟨hbw.trans ((bH _ _).mono hbw.size),bH _ _,Q1,Re,Re,Re,Re,Uk,Ul,Um,Un⟩ ?_
 rintro W0 ⟨hb0,hbr,sx,x0,x1,x2,x3,z0,z1,z2,z3⟩
 have s3:=lt_of_lt_of_le s2 hbr.size
 have Lx0:=lo_ sx x0
 have Lx1:=lo_ sx x1
 have Lx2:=lo_ sx x2
 have Lx3:=lo_ sx x3
 have Lz0:=lo_ s3 z0
 have Lz1:=lo_ s3 z1
 have Lz2:=lo_ s3 z2
 have Lz3:=lo_ s3 z3
 refine dz W0.heap.size SI SI ?_
 repeat(go_big_quiet_step ((first|(go_at_call 180;exact dy (oQ _ _ ps _ _ _ _ (HP _ (hb0.trans ((Low.low _).mono hb0.size)))))|(go_at_call 181;exact dy (pE _ _ _ _ _ _ _ _ _)))))
 refine wpQuiet_nil ?_
 rintro _ ⟨⟨w2,hk⟩,rfl⟩
 clear Lx0 Lx1 Lx2 Lx3 Lz0 Lz1 Lz2 Lz3
 go_wp2_with fail
 go_ret
 exact⟨eJ H3.out.symm,hb0.trans (hk.mono hb0.size)⟩):p:=h
theorem nR(w:World)(C v ps f)(A:bR w C ps)(z:bO w v f):Calls prog 127 #[C,v] w λe w'=>e=.returned (.int .i64 (bW ps f))/\Below w w w':=by
 have HP:=lp_ A;have HF:=hid_ z;obtain⟨ac,ad,rfl,ab,L⟩:=A;obtain⟨F,G,rfl,W,J⟩:=z;clear L J;by_cases h5:5<ps.length
 .have e:bW ps f=2:=by rw[bW,if_pos h5]
  rw[e];have H:(5:Int)<(ps.length:Int):=Q0;go_enter func127,ntmps127;exact Ze
 have H:¬(5:Int)<(ps.length:Int):=Q0;have p:=hid_ λN (l:ps.any (λr=> !jn r)=N)=>l▸qS w _ ps _ #[] F6 _ (HP w (Below.refl _ _)) (λs r U _=>Gm r s);cases hpk:iE ps
 .have e:bW ps f=2:=by rw[bW,if_neg h5,if_pos hpk]
  rw[e];have l:=p true (by rw[zz,hpk];rfl);clear hpk e;go_enter func127,ntmps127;go_wp2_with(go_at_call 163;refine mo_ l λs o=>?_);go_ret;exact⟨rfl,o⟩
 have HE:Hid (bW ps f=if iD ps f f then 0 else 1):=SG;have l:=p false (by rw[zz,hpk];rfl);clear hpk;go_enter func127,ntmps127;go_wp2_with(go_at_call 163;refine mo_ l λs o=>?_);go_loopw [18] (λi wr=>∃j:Nat,j<=f.length/\i=.int .i64 j/\iD ps f j=true/\Below w w wr) (λi _=>f.length-(intOf i).toNat)
 case atStart=>exact⟨0,zero_le _,rfl,rfl,o⟩
 obtain⟨j,Y,rfl,hgo,hbw⟩:=hrel;clear l p o;by_cases hlt:j<f.length
 .have d:Hid (iD ps f (j+1)=ig ps f j):=by show _=_;rw[zL,hgo,Bool.true_and]
  have c:Hid (ig ps f j=false->bW ps f=1):=λh=>SH;obtain⟨bb,off,E,hv,q,x⟩:=ly HF hlt;obtain⟨rfl,rfl⟩:F=some ⟨bb,off,none⟩/\G=E:=SC;have s2:=lt_of_lt_of_le q hbw.size;obtain⟨O,P,Q,R⟩:=m7.a w wr bb _ _ hbw q x;have aa:(j:Int)<(f.length:Int):=Q0;have Z:(0:Int)<=(j:Int):=Q0;have HNJ:=hid_ (l_ hlt);clear x hv;rcases Nat.eq_zero_or_pos j with rfl|hjp
  .have b:Hid (ig ps f 0=cw ps f[0]):=by show _=_;rw[ig,HNJ.out];simp
   simp only[Nat.zero_mul,Nat.add_zero] at O P Q R;clear HNJ HF hgo;generalize f[0]=t at*;obtain⟨yp,ya,yb,yv⟩:=t;cases k:cw ps ⟨yp,ya,yb,yv⟩
   .have H3:=hid_ (c (b.out.trans k));clear d c HE b;go_wp2_with fail;refine lA (λw'=>Below w w w'/\Below wr wr w'/\wr.heap.size<w'.heap.size/\w'.cell? wr=some (.int .i64 yp)/\w'.cell? ⟨wr,1,none⟩=some (.int .i64 ya)/\w'.cell? ⟨wr,2,none⟩=some (.int .i64 yb)/\w'.cell? ⟨wr,3,none⟩=some (.int .i64 yv)) ⟨hbw.trans ((bH _ _).mono hbw.size),bH _ _,Q1,Re,Re,Re,Re⟩ ?_;rintro W0 ⟨hb0,hbr,sx,x0,x1,x2,x3⟩;have s3:=lt_of_lt_of_le s2 hbr.size;have Lx0:=lo_ sx x0;have Lx1:=lo_ sx x1;have Lx2:=lo_ sx x2;have Lx3:=lo_ sx x3;refine dz W0.heap.size SI SI ?_;repeat(go_big_quiet_step ((first|(go_at_call 180;exact dy (oQ _ _ ps _ _ _ _ (HP _ (hb0.trans ((Low.low _).mono hb0.size)))))|(go_at_call 181;exact dy (pE _ _ _ _ _ _ _ _ _)))))
    refine wpQuiet_nil ?_;rintro _ ⟨⟨w2,hk⟩,rfl⟩;clear Lx0 Lx1 Lx2 Lx3;go_wp2_with fail;go_ret;exact⟨eJ H3.out.symm,hb0.trans (hk.mono hb0.size)⟩
   have H3:=hid_ (d.out.trans (b.out.trans k));clear d c HE b;go_wp2_with fail;refine lA (λw'=>Below w w w'/\Below wr wr w'/\wr.heap.size<w'.heap.size/\w'.cell? wr=some (.int .i64 yp)/\w'.cell? ⟨wr,1,none⟩=some (.int .i64 ya)/\w'.cell? ⟨wr,2,none⟩=some (.int .i64 yb)/\w'.cell? ⟨wr,3,none⟩=some (.int .i64 yv)) ⟨hbw.trans ((bH _ _).mono hbw.size),bH _ _,Q1,Re,Re,Re,Re⟩ ?_;rintro W0 ⟨hb0,hbr,sx,x0,x1,x2,x3⟩;have s3:=lt_of_lt_of_le s2 hbr.size;have Lx0:=lo_ sx x0;have Lx1:=lo_ sx x1;have Lx2:=lo_ sx x2;have Lx3:=lo_ sx x3;refine dz W0.heap.size SI SI ?_;repeat(go_big_quiet_step ((first|(go_at_call 180;exact dy (oQ _ _ ps _ _ _ _ (HP _ (hb0.trans ((Low.low _).mono hb0.size)))))|(go_at_call 181;exact dy (pE _ _ _ _ _ _ _ _ _)))))
   refine wpQuiet_nil ?_;rintro _ ⟨⟨w2,hk⟩,rfl⟩;clear Lx0 Lx1 Lx2 Lx3;go_wp2_with fail;go_roundw
   case rel=>exact⟨0+1,Q0,Rv,H3.out,hb0.trans (hk.mono hb0.size)⟩
   exact adT
  obtain⟨i,rfl⟩:∃i,j=i+1:=⟨j-1,Q0⟩;have hil:i<f.length:=Q0;obtain⟨D,M,T,B,V,y⟩:=ly HF hil;obtain⟨⟨rfl,rfl⟩,I⟩:(bb=D/\off=M)/\_:=by simpa using B
  clear I;obtain⟨u0,u1,u2,u3⟩:=m7.a w wr bb _ _ hbw q y;have b:Hid (ig ps f (i+1)=(cw ps f[i+1]&&decide (bL f[i]<bL f[i+1]))):=SK
  have u:Hid (cw ps f[i]=true):=by
   have:=List.all_eq_true.1 hgo i (List.mem_range.2 Q0);simp only[ig,l_ hil,Bool.and_eq_true] at this;exact this.1
  have m:=hid_ (mC Q0 u.out);have g:Hid (cw ps f[i+1]=true->eF f[i+1]):=mC Q0;have X:(i:Int)<(f.length:Int):=Q0;clear HNJ HF hgo y B u;generalize f[i+1]=t at*;generalize f[i]=S at*;obtain⟨yp,ya,yb,yv⟩:=t;obtain⟨zp,za,zb,zv⟩:=S;cases k:cw ps ⟨yp,ya,yb,yv⟩
  .have H3:=hid_ (c (b.out.trans (by rw[k];rfl)));clear d c HE b g m;exact ae2
  have g:=zM (g k);by_cases n:bL ⟨zp,za,zb,zv⟩<bL ⟨yp,ya,yb,yv⟩
  .have H3:Hid (iD ps f (i+1+1)=true):=d.out.trans (b.out.trans (by rw[k];simpa using n));have K:decide (0<=mA ⟨zp,za,zb,zv⟩ ⟨yp,ya,yb,yv⟩)=false:=by have:=((pB m g.out).1).2 n;simpa using this
   clear d c HE b n m g;go_wp2_with fail;refine lA (λw'=>Below w w w'/\Below wr wr w'/\wr.heap.size<w'.heap.size/\w'.cell? wr=some (.int .i64 yp)/\w'.cell? ⟨wr,1,none⟩=some (.int .i64 ya)/\w'.cell? ⟨wr,2,none⟩=some (.int .i64 yb)/\w'.cell? ⟨wr,3,none⟩=some (.int .i64 yv)/\w'.cell? ⟨bb,off+i*4,none⟩=some (.int .i64 zp)/\w'.cell? ⟨bb,off+i*4+1,none⟩=some (.int .i64 za)/\w'.cell? ⟨bb,off+i*4+2,none⟩=some (.int .i64 zb)/\w'.cell? ⟨bb,off+i*4+3,none⟩=some (.int .i64 zv)) ⟨hbw.trans ((bH _ _).mono hbw.size),bH _ _,Q1,Re,Re,Re,Re,Uk,Ul,Um,Un⟩ ?_;rintro W0 ⟨hb0,hbr,sx,x0,x1,x2,x3,z0,z1,z2,z3⟩;have s3:=lt_of_lt_of_le s2 hbr.size;have Lx0:=lo_ sx x0;have Lx1:=lo_ sx x1;have Lx2:=lo_ sx x2;have Lx3:=lo_ sx x3;have Lz0:=lo_ s3 z0;have Lz1:=lo_ s3 z1;have Lz2:=lo_ s3 z2;have Lz3:=lo_ s3 z3;refine dz W0.heap.size SI SI ?_;repeat(go_big_quiet_step ((first|(go_at_call 180;exact dy (oQ _ _ ps _ _ _ _ (HP _ (hb0.trans ((Low.low _).mono hb0.size)))))|(go_at_call 181;exact dy (pE _ _ _ _ _ _ _ _ _)))))
   refine wpQuiet_nil ?_;rintro _ ⟨⟨w2,hk⟩,rfl⟩;clear Lx0 Lx1 Lx2 Lx3 Lz0 Lz1 Lz2 Lz3;go_wp2_with fail;go_roundw
   case rel=>exact⟨i+1+1,Q0,Rv,H3.out,hb0.trans (hk.mono hb0.size)⟩
   exact adT
  have H3:=hid_ (c (b.out.trans (by rw[k];simpa using n)))
  have K:decide (0<=mA ⟨zp,za,zb,zv⟩ ⟨yp,ya,yb,yv⟩)=true:=by
   have:=(pB m g.out).1;simp only[decide_eq_true_eq];omega
  clear d c HE b n m g;exact ae2
 exact aaN
def ii(ps:List Prd)(f:List Fct)(x:Fct):Int:=if bW ps f≠0 then bW ps f else if cw ps x then 0 else 1
theorem pA(b:World)(s n a f)(p g h i:Int)(r:bR b s a)(o:bO b n f):Calls prog 199 #[s,n,.agg #[p,g,h,i]] b λe x=>e=.returned (.int .i64 (ii a f ⟨p,g,h,i⟩))/\Below b b x:=by
 have j:=lp_ r;have l:=lf_ o;clear r o;by_cases h0:bW a f=0
 .cases q:cw a ⟨p,g,h,i⟩
  .have e:ii a f ⟨p,g,h,i⟩=1:=by simp[ii,h0,q]
   rw[e];clear e;go_enter func199,ntmps199
   go_wp2_with(first
    |(go_at_call 127;refine mo_ (nR _ _ _ a f (j _ (bH _ _)) (l _ (bH _ _))) λk c=>?_;obtain⟨t,u,v,w⟩:=pC c;have d:Hid (Below b b k):=(bH _ _).trans (c.mono Q1);clear c)
    |(go_at_call 180;refine mo_ (oQ _ _ a _ _ _ _ (j _ d.out)) λy m=>?_))
   go_ret;exact⟨rfl,d.out.trans (m.mono d.out.size)⟩
  have e:ii a f ⟨p,g,h,i⟩=0:=by simp[ii,h0,q]
  rw[e];clear e;go_enter func199,ntmps199
  go_wp2_with(first
   |(go_at_call 127;refine mo_ (nR _ _ _ a f (j _ (bH _ _)) (l _ (bH _ _))) λk c=>?_;obtain⟨t,u,v,w⟩:=pC c;have d:Hid (Below b b k):=(bH _ _).trans (c.mono Q1);clear c)
   |(go_at_call 180;refine mo_ (oQ _ _ a _ _ _ _ (j _ d.out)) λy m=>?_))
  go_ret;exact⟨rfl,d.out.trans (m.mono d.out.size)⟩
 have e:ii a f ⟨p,g,h,i⟩=bW a f:=by simp[ii,h0]
 rw[e];clear e;have z:(bW a f==0)=false:=Q8;go_enter func199,ntmps199;go_wp2_with(go_at_call 127;refine mo_ (nR _ _ _ a f (j _ (bH _ _)) (l _ (bH _ _))) λk c=>?_;have d:Hid (Below b b k):=(bH _ _).trans (c.mono Q1);clear c);go_ret;exact⟨rfl,d.out⟩
def dK(f:List Fct)(pl:Int):Nat:=f.countP λy=>decide (bL y<pl)
theorem zX(f a):dK f a<=f.length:=List.countP_le_length
theorem qY(b f a):dK (b::f) a=if bL b<a then dK f a+1 else dK f a:=by
 unfold dK;rw[List.countP_cons];by_cases c:bL b<a<;>simp[c]
theorem tr{f b}(c:∀a∈f,b<=bL a):dK f b=0:=by
 unfold dK;rw[List.countP_eq_zero];intro a d;have:=c a d;simp;omega
theorem Uo(h:p:=by have:=h1 z hz;omega):p:=h
theorem Gr{f c}(i:fV f):∀{k:Nat} (b:k<f.length),bL f[k]<c↔k<dK f c:=by
 induction f with
 |nil=>intro k b;simp at b
 |cons d f ih=>
  intro k b;obtain⟨h1,g⟩:=List.pairwise_cons.1 i;rw[qY];cases k with
  |zero=>
   by_cases a:bL d<c
   .simp[a]
   rw[if_neg a,tr (λz hz=>Uo)];simpa using a
  |succ k=>
   have h:=by simpa using b
   rw[List.getElem_cons_succ,ih g h];by_cases a:bL d<c
   .rw[if_pos a];omega
   rw[if_neg a,tr (λz hz=>Uo)];omega
theorem vU{f a}(h:fV f):cd f a=if d:dK f a<f.length then(if bL f[dK f a]=a then some f[dK f a].val else none) else none:=by
 induction f with
 |nil=>rfl
 |cons c f ih=>
  obtain⟨h1,g⟩:=List.pairwise_cons.1 h;rw[eL];by_cases d:bL c<a
  .have e:dK (c::f) a=dK f a+1:=by rw[qY,if_pos d]
   rw[if_neg Q0,ih g];simp only[e,List.length_cons,Nat.add_lt_add_iff_right,List.getElem_cons_succ]
  have e:dK (c::f) a=0:=by
   rw[qY,if_neg d];exact tr (λz hz=>Uo)
  simp only[e,List.length_cons,Nat.zero_lt_succ,List.getElem_cons_zero,dif_pos];by_cases b:bL c=a
  .rw[if_pos b,if_pos b]
  rw[if_neg b,if_neg b];exact tm (λz hz=>Uo)
theorem zJ{f b d}(g:fV f)(a:cd f b=some d):∃c:dK f b<f.length,bL f[dK f b]=b/\f[dK f b].val=d:=by
 rw[vU g] at a;split at a
 .rename_i c;split at a
  .rename_i he;exact⟨c,he,Option.some.inj a⟩
  cases a
 cases a
theorem Up(h:p:=by rw[hbr.cell (by simp)];simp[go_sem]):p:=h
theorem Uq(h:p:=by rw[HG'.out,HLO.out];rfl):p:=h
theorem Y8(h:p:=by
 clear hc HSY HG
 go_wp2_with fail
 have Lc0:=lo_ s1 c0
 have Lc1:=lo_ s1 c1
 have Lc2:=lo_ s1 c2
 have Lc3:=lo_ s1 c3
 have Lt0:=lo_ s2 t0
 have Lt1:=lo_ s2 t1
 have Lt2:=lo_ s2 t2
 have Lt3:=lo_ s2 t3
 refine dz wr.heap.size SI SI ?_
 repeat(go_big_quiet_step (((go_at_call 181;exact dy (pE _ _ _ _ _ _ _ _ _)))))
 refine wpQuiet_nil ?_
 rintro _ ⟨⟨w2,hk⟩,rfl⟩
 clear Lc0 Lc1 Lc2 Lc3 Lt0 Lt1 Lt2 Lt3
 go_wp2_with fail
 go_ret2
 exact⟨Uq,hbw.trans (hk.mono hbw.size)⟩):p:=h
theorem tu(h:World)(I:Value)(f:List Fct)(p b c d:Int)(L:bO h I f)(P:∀v∈f,eF v)(R:eF ⟨p,b,c,d⟩)(Q:fV f):
 Calls prog 200 #[I,.agg #[p,b,c,d],.func (.func 181) #[] #[]] h λe V=>e=.returned (.tuple #[.int .i64 (dK f (bL ⟨p,b,c,d⟩)),.bool (cd f (bL ⟨p,b,c,d⟩)).isSome])/\Below h h V:=by
 have q:=hid_ L
 have r:=hid_ P
 have x:=hid_ R
 have o:=hid_ Q
 obtain⟨G,H,rfl,W,T⟩:=L
 have O:dK f (bL ⟨p,b,c,d⟩)<=f.length:=zX _ _
 clear T P R Q
 go_enter func200,ntmps200
 go_wp2_with fail
 go_loopw [9,10] (λD E wr=>∃g j:Nat,D=.int .i64 g/\E=.int .i64 j/\g<=dK f (bL ⟨p,b,c,d⟩)/\dK f (bL ⟨p,b,c,d⟩)<=j/\j<=f.length/\Below (h.heap.size+1) (h.alloc (.cells #[p,b,c,d] 93)) wr) (λD E _=>(intOf E).toNat-(intOf D).toNat)
 case atStart=>exact⟨0,f,rfl,rfl,zero_le _,O,le_refl _,by have:=Below.refl (h.alloc (.cells #[p,b,c,d] 93)).heap.size (h.alloc (.cells #[p,b,c,d] 93));simpa using this⟩
 obtain⟨g,j,rfl,rfl,J,K,S,hbr⟩:=hrel
 have hbw:=(bH _ _).trans (hbr.mono Q1)
 have c0:wr.cell? h=some (.int .i64 p):=Up
 have c1:wr.cell? ⟨h,1,none⟩=some (.int .i64 b):=Up
 have c2:wr.cell? ⟨h,2,none⟩=some (.int .i64 c):=Up
 have c3:wr.cell? ⟨h,3,none⟩=some (.int .i64 d):=Up
 have s1:h.heap.size<wr.heap.size:=SB
 by_cases Y:g<j
 .obtain⟨i,Z,aa,ab⟩:∃i:Nat,((g:Int)+(j:Int))/2=(i:Int)/\g<=i/\i<j:=⟨(g+j)/2,Q0,Q0,Q0⟩
  have B:i<f.length:=Q0
  obtain⟨s,F,z,hv,t,u⟩:=ly q B
  obtain⟨rfl,rfl⟩:G=some ⟨s,F,none⟩/\H=z:=SC
  have s2:=lt_of_lt_of_le t hbw.size
  obtain⟨t0,t1,t2,t3⟩:=m7.a h wr s _ _ hbw t u
  have HSY:=hid_ (r _ (getElem_mem B))
  have w:Hid (bL f[i]<bL ⟨p,b,c,d⟩↔i<dK f (bL ⟨p,b,c,d⟩)):=Gr o B
  have M:(i:Int)<(f.length:Int):=Q0
  have U:(0:Int)<=(i:Int):=Q0
  clear u hv r o q
  generalize f[i]=v at*
  obtain⟨m,k,l,n⟩:=v
  by_cases hc:bL ⟨m,k,l,n⟩<bL ⟨p,b,c,d⟩
  .have A:decide (mA ⟨m,k,l,n⟩ ⟨p,b,c,d⟩<0)=true:=by simpa using((pB HSY x.out).1).2 hc
   have C:i+1<=dK f (bL ⟨p,b,c,d⟩):=w.out.1 hc
   clear hc HSY w
   go_wp2_with fail
   have Lc0:=lo_ s1 c0
   have Lc1:=lo_ s1 c1
   have Lc2:=lo_ s1 c2
   have Lc3:=lo_ s1 c3
   have Lt0:=lo_ s2 t0
   have Lt1:=lo_ s2 t1
   have Lt2:=lo_ s2 t2
   have Lt3:=lo_ s2 t3
   refine dz wr.heap.size SI SI ?_
   repeat(go_big_quiet_step (((go_at_call 181;exact dy (pE _ _ _ _ _ _ _ _ _)))))
   refine wpQuiet_nil ?_
   rintro _ ⟨⟨w2,hk⟩,rfl⟩
   clear Lc0 Lc1 Lc2 Lc3 Lt0 Lt1 Lt2 Lt3
   go_wp2_with fail
   go_roundw
   case rel=>exact⟨i+1,j,Rv,rfl,C,K,S,hbr.trans (hk.mono SB)⟩
   exact adT
  have A:decide (mA ⟨m,k,l,n⟩ ⟨p,b,c,d⟩<0)=false:=by
   have:=(pB HSY x.out).1
   simp only[decide_eq_false_iff_not]
   omega
  have C:dK f (bL ⟨p,b,c,d⟩)<=i:=by
   have:=w.out
   omega
  clear hc HSY w
  go_wp2_with fail
  have Lc0:=lo_ s1 c0
  have Lc1:=lo_ s1 c1
  have Lc2:=lo_ s1 c2
  have Lc3:=lo_ s1 c3
  have Lt0:=lo_ s2 t0
  have Lt1:=lo_ s2 t1
  have Lt2:=lo_ s2 t2
  have Lt3:=lo_ s2 t3
  refine dz wr.heap.size SI SI ?_
  repeat(go_big_quiet_step (((go_at_call 181;exact dy (pE _ _ _ _ _ _ _ _ _)))))
  refine wpQuiet_nil ?_
  rintro _ ⟨⟨w2,hk⟩,rfl⟩
  clear Lc0 Lc1 Lc2 Lc3 Lt0 Lt1 Lt2 Lt3
  go_wp2_with fail
  go_roundw
  case rel=>exact⟨g,i,rfl,rfl,J,C,Q0,hbr.trans (hk.mono SB)⟩
  exact adT
 have N:dK f (bL ⟨p,b,c,d⟩)=g:=Q0
 have X:g<=f.length:=Q0
 have HLO:=hid_ N
 clear J K N O
 by_cases y:g<f.length
 .have M:(g:Int)<(f.length:Int):=Q0
  have U:(0:Int)<=(g:Int):=Q0
  obtain⟨s,F,z,hv,t,u⟩:=ly q y
  obtain⟨rfl,rfl⟩:G=some ⟨s,F,none⟩/\H=z:=SC
  have s2:=lt_of_lt_of_le t hbw.size
  obtain⟨t0,t1,t2,t3⟩:=m7.a h wr s _ _ hbw t u
  have HSY:=hid_ (r _ (getElem_mem y))
  have HG:Hid (cd f (bL ⟨p,b,c,d⟩)=if bL f[g]=bL ⟨p,b,c,d⟩ then some f[g].val else none):=by
   show _=_
   rw[vU o.out]
   simp only[HLO.out,dif_pos y]
  clear u hv r o q
  generalize f[g]=v at*
  obtain⟨m,k,l,n⟩:=v
  by_cases hc:bL ⟨m,k,l,n⟩=bL ⟨p,b,c,d⟩
  .have A:(mA ⟨m,k,l,n⟩ ⟨p,b,c,d⟩==0)=true:=by simpa using((pB HSY x.out).2).2 hc
   have HG':Hid ((cd f (bL ⟨p,b,c,d⟩)).isSome=true):=by show _=_;rw[HG.out,if_pos hc];rfl
   exact Y8
  have A:(mA ⟨m,k,l,n⟩ ⟨p,b,c,d⟩==0)=false:=by
   have:=(pB HSY x.out).2
   simp only[beq_eq_false_iff_ne,ne_eq]
   omega
  have HG':Hid ((cd f (bL ⟨p,b,c,d⟩)).isSome=false):=by show _=_;rw[HG.out,if_neg hc];rfl
  exact Y8
 have HG':Hid ((cd f (bL ⟨p,b,c,d⟩)).isSome=false):=by
  show _=_
  rw[vU o.out,dif_neg (by rw[HLO.out];exact y)]
  rfl
 have M:¬(g:Int)<(f.length:Int):=Q0
 clear r o q
 go_wp2_with fail
 have Lc0:=lo_ s1 c0
 have Lc1:=lo_ s1 c1
 have Lc2:=lo_ s1 c2
 have Lc3:=lo_ s1 c3
 refine dz wr.heap.size SI SI ?_
 repeat(go_big_quiet_step (((go_at_call 181;exact dy (pE _ _ _ _ _ _ _ _ _)))))
 refine wpQuiet_nil ?_
 rintro _ ⟨⟨w2,hk⟩,rfl⟩
 clear Lc0 Lc1 Lc2 Lc3
 go_wp2_with fail
 go_ret2
 exact⟨Uq,hbw.trans (hk.mono hbw.size)⟩
theorem z8{b f c}(a:ii b f c=0):bW b f=0/\cw b c=true:=by
 unfold ii at a;split at a
 .contradiction
 rename_i h0;split at a
 .exact⟨Q0,Q7⟩
 omega
theorem F8{a f b}(d:ii a f b≠0):m_ a f b=(0,false,ii a f b):=by
 unfold ii m_ at*;by_cases c:bW a f=0
 .cases g:cw a b
  .simp[c]
  simp[c,g] at d
 simp[c]
theorem abb(h:p:=by
 have:=tu w' _ f p a b v (HF _ hb) HS HX HSO.out
 rw[hg] at this
 exact this):p:=h
theorem zw(c:World)(x r h f)(p a b v:Int)(t:bR c x h)(s:bO c r f):Calls prog 177 #[x,r,.agg #[p,a,b,v]] c λe w'=>e=.returned (.tuple #[.int .i64 (m_ h f ⟨p,a,b,v⟩).1,.bool (m_ h f ⟨p,a,b,v⟩).2.1,.int .i64 (m_ h f ⟨p,a,b,v⟩).2.2])/\Below c c w':=by
 have l:=lp_ t;have HF:=lf_ s;obtain⟨E,q,rfl,N,I⟩:=s;clear t I;by_cases h0:ii h f ⟨p,a,b,v⟩=0
 .obtain⟨j,m⟩:=z8 h0;have HS:=hid_ (oP j);have HX:=hid_ (mC (eR j).1 m);have HSO:=hid_ ((cG j).sorted);have e:m_ h f ⟨p,a,b,v⟩=(eK f (bL ⟨p,a,b,v⟩),(cd f (bL ⟨p,a,b,v⟩)).isSome,0):=by simp[m_,j,m]
  rw[e];clear e j m;cases hg:cd f (bL ⟨p,a,b,v⟩) with
  |none=>
   have e:eK f (bL ⟨p,a,b,v⟩)=0:=by rw[eK,hg];rfl
   rw[e];clear e;go_enter func177,ntmps177
   go_wp2_with(first
    |(go_at_call 199;refine mo_ (pA _ _ _ h f _ _ _ _ (l _ (bH _ _)) (HF _ (bH _ _))) λi g=>?_;obtain⟨z,A,B,C⟩:=pC g;have d:Hid (Below c c i):=(bH _ _).trans (g.mono Q1);clear g)
    |(go_at_call 200;refine mo_ (tu _ _ f _ _ _ _ (HF _ d.out) HS HX HSO.out) λL k=>?_;rw[hg]))
   go_ret3;exact⟨rfl,d.out.trans (k.mono d.out.size)⟩
  |some K=>
   have e:eK f (bL ⟨p,a,b,v⟩)=K:=by rw[eK,hg];rfl
   rw[e];clear e;obtain⟨J,_,u⟩:=zJ HSO hg;obtain⟨o,w,D,hv,G,H⟩:=ly (HF c (Below.refl _ _)) J;obtain⟨rfl,rfl⟩:E=some ⟨o,w,none⟩/\q=D:=SC;obtain⟨_,_,_,n⟩:=H;rw[u] at n;have O:(0:Int)<=(dK f (bL ⟨p,a,b,v⟩):Int):=Q0;have P:(dK f (bL ⟨p,a,b,v⟩):Int)<(f.length:Int):=Q0
   have y:Hid (∀w',Calls prog 200 #[.slice (some ⟨o,w,none⟩) f q,.agg #[p,a,b,v],.func (.func 181) #[] #[]] w' (λe i=>e=.returned (.tuple #[.int .i64 (dK f (bL ⟨p,a,b,v⟩)),.bool true])/\Below w' w' i)\/¬Below c c w'):=λw'=>by
    by_cases hb:Below c c w'
    .left;exact abb
    exact .inr hb
   clear hv HS HX HSO hg u;generalize dK f (bL ⟨p,a,b,v⟩)=Q at*;go_enter func177,ntmps177
   go_wp2_with(first
    |(go_at_call 199;refine mo_ (pA _ _ _ h f _ _ _ _ (l _ (bH _ _)) (HF _ (bH _ _))) λi g=>?_;obtain⟨z,A,B,C⟩:=pC g;have d:Hid (Below c c i):=(bH _ _).trans (g.mono Q1);clear g)
    |(go_at_call 200;refine mo_ ((y _).resolve_right (λF=>F d.out)) λL k=>?_;replace n:=(bF (d.out.trans (k.mono d.out.size)) G).trans n))
   go_ret3;exact⟨rfl,d.out.trans (k.mono d.out.size)⟩
 rw[F8 h0];have M:(ii h f ⟨p,a,b,v⟩==0)=false:=Q8;go_enter func177,ntmps177;go_wp2_with(go_at_call 199;refine mo_ (pA _ _ _ h f _ _ _ _ (l _ (bH _ _)) (HF _ (bH _ _))) λi g=>?_;have d:Hid (Below c c i):=(bH _ _).trans (g.mono Q1);clear g);go_ret3;exact⟨rfl,d.out⟩
theorem FU{b:World}{a o d}(c:b.cell? ⟨a,o,none⟩=some d):a<b.heap.size:=by
 refine Classical.byContradiction λf=>?_;have:b.heap[a]? =none:=RD;simp[World.cell?,this] at c
theorem GK{a b f n}(c:bP a b≠0):ev a b f n=bP a b:=by rw[ev,if_pos c]
theorem GJ{a b f n}(h:bP a b=0)(c:bW a f≠0):ev a b f n=bW a f:=by rw[ev,if_neg TN,if_pos c]
theorem G8{f b a k}(c:k<a.length)(d:kD f b a[k]=a[k].neg):cS f b a=false:=
 qN c (by unfold lD;rw[d];simp)
theorem Ai{a}(b:iE a=true){p}(c:gl a p=true):bJ a p=0\/bJ a p=1\/bJ a p=2\/bJ a p=3:=by
 have:=kE.1 (rj b c).1;omega
theorem Uz(h:p:=by have:=hpr.1;rw[heh] at this;simpa using this):p:=h
theorem UA(h:p:=by rw[<-hW1];simp):p:=h
theorem UB(h:p:=by rw[<-hW1];simp[go_sem]):p:=h
theorem UC(h:p:=by have:=hb2.size;omega):p:=h
theorem UD(h:p:=by simp[results,results97,go_sem,r0,r1,r2,r3]):p:=h
theorem UE(h:p:=by rw[HVL.out];exact AI _ _ _ x HKD hf15.1 hf15.2 p5 p6):p:=h
theorem UF(h:p:=by show w2.heap.size<(w3.setCell _ _).heap.size;rw[cF];exact hsz3):p:=h
theorem ae0(h:p:=by
 have H:=hid_ (HYES Q1)
 clear HNO HYES
 by_cases hks:(k:Int)=r.src
 .have hks':=beq_iff_eq.2 hks
  have HVL:Hid (dI ps f r v (k+1)=fG (bJ ps r.head.pred) fv' r.n):=by show _=_;rw[HVT'.out,if_pos hks]
  clear hks HVT'
  have HLIFT:Hid (∀x,Calls prog 144 #[.int .i64 (bJ ps r.head.pred),fv',r.n] x λe w'=>e=.returned (.int .i64 (dI ps f r v (k+1)))/\w'=x):=λx=>UE
  have KEEP:Hid ((λw'=>w'.cell? w=some (.slice (some ⟨pb,po,none⟩) ps pc)/\w'.cell? w2=some (.int .i64 (eh:Int))/\w'.cell? ⟨pb,po+eh*3+2,none⟩=some (.int .i64 (bJ ps r.head.pred))/\w'.cell? ⟨BR,3,none⟩=some (.int .i64 r.n)) w3.drew):=⟨i0,y0,pk,i5⟩
  have KEEP2:Hid (∀u,(λw'=>w'.cell? w=some (.slice (some ⟨pb,po,none⟩) ps pc)/\w'.cell? w2=some (.int .i64 (eh:Int))/\w'.cell? ⟨pb,po+eh*3+2,none⟩=some (.int .i64 (bJ ps r.head.pred))/\w'.cell? ⟨BR,3,none⟩=some (.int .i64 r.n)) (w3.drew.setCell ⟨w2,3,none⟩ u)):=λu=>⟨(cb Q0).trans i0,(cP Q0).trans y0,(cb Q0).trans pk,(cb Q0).trans i5⟩
  go_wp2_with fail
  go_region_held3 (λw'=>w'.cell? w=some (.slice (some ⟨pb,po,none⟩) ps pc)/\w'.cell? w2=some (.int .i64 (eh:Int))/\w'.cell? ⟨pb,po+eh*3+2,none⟩=some (.int .i64 (bJ ps r.head.pred))/\w'.cell? ⟨BR,3,none⟩=some (.int .i64 r.n)) (first|exact KEEP.out|exact KEEP2 _) (first|(go_at_call 144;refine mq_ (HLIFT _) ?_))
  go_wp2_with fail
  exact⟨⟨k+1,Q0,Rv,(hb23.setCell (p:=⟨w2,3,none⟩) (le_refl _) _).drew,UF,H.out,(cP Q0).trans y0,(cP Q0).trans y1,(cP Q0).trans y2,fC y3,gI.trans y3f⟩,S6⟩
 have hks':=beq_eq_false_iff_ne.2 hks
 have HVL:Hid (dI ps f r v (k+1)=dI ps f r v k):=by show _=_;rw[HVT'.out,if_neg hks]
 clear hks HVT'
 go_wp2_with fail
 exact⟨⟨k+1,Q0,Rv,hb23,hsz3,H.out,y0,y1,y2,by rw[HVL.out];exact y3,y3f⟩,S6⟩):p:=h
theorem ae1(h:p:=by
 have hks':=beq_iff_eq.2 hks
 have HVL:Hid (dI ps f r v (k+1)=fG (bJ ps r.head.pred) fv' r.n):=by show _=_;rw[HVT'.out,if_pos hks]
 clear hks HVT'
 have HLIFT:Hid (∀x,Calls prog 144 #[.int .i64 (bJ ps r.head.pred),fv',r.n] x λe w'=>e=.returned (.int .i64 (dI ps f r v (k+1)))/\w'=x):=λx=>UE
 have KEEP:Hid ((λw'=>w'.cell? w=some (.slice (some ⟨pb,po,none⟩) ps pc)/\w'.cell? w2=some (.int .i64 (eh:Int))/\w'.cell? ⟨pb,po+eh*3+2,none⟩=some (.int .i64 (bJ ps r.head.pred))/\w'.cell? ⟨BR,3,none⟩=some (.int .i64 r.n)) w3.drew):=⟨i0,y0,pk,i5⟩
 have KEEP2:Hid (∀u,(λw'=>w'.cell? w=some (.slice (some ⟨pb,po,none⟩) ps pc)/\w'.cell? w2=some (.int .i64 (eh:Int))/\w'.cell? ⟨pb,po+eh*3+2,none⟩=some (.int .i64 (bJ ps r.head.pred))/\w'.cell? ⟨BR,3,none⟩=some (.int .i64 r.n)) (w3.drew.setCell ⟨w2,3,none⟩ u)):=λu=>⟨(cb Q0).trans i0,(cP Q0).trans y0,(cb Q0).trans pk,(cb Q0).trans i5⟩
 go_wp2_with fail
 go_region_held3 (λw'=>w'.cell? w=some (.slice (some ⟨pb,po,none⟩) ps pc)/\w'.cell? w2=some (.int .i64 (eh:Int))/\w'.cell? ⟨pb,po+eh*3+2,none⟩=some (.int .i64 (bJ ps r.head.pred))/\w'.cell? ⟨BR,3,none⟩=some (.int .i64 r.n)) (first|exact KEEP.out|exact KEEP2 _) (first|(go_at_call 144;refine mq_ (HLIFT _) ?_))
 go_wp2_with fail
 exact⟨⟨k+1,Q0,Rv,(hb23.setCell (p:=⟨w2,3,none⟩) (le_refl _) _).drew,UF,H.out,(cP Q0).trans y0,(cP Q0).trans y1,(cP Q0).trans y2,fC y3,gI.trans y3f⟩,S6⟩):p:=h
theorem ZY(h:p:=by
 intro o ho
 rw[<-hW1]
 obtain rfl|rfl|rfl|rfl:o=0\/o=1\/o=2\/o=3:=Q0
 all_goals simp[go_sem]):p:=h
theorem tE(w:World)(aN aS av ps l f n v)(aC:bR w aN ps)(aG:ck w aS l)(ay:bO w av f)(aE:∀r∈l,cx ps r=0)(K:bW ps f=0)(aB:n<l.length)(hv:cT v=true):Calls prog 97 #[.agg #[aN,aS],av,n,.agg #[v.x,v.y,v.z]] w λe w'=>e=.returned (.tuple #[.bool (cS f v l[n].body),.agg #[.int .i64 (dl ps f l[n] v).pred,.int .i64 (dl ps f l[n] v).a,.int .i64 (dl ps f l[n] v).b,.int .i64 (dl ps f l[n] v).val]])/\Below w w w':=by
 have ag:=lp_ aC;have a9:=hid_ aG;have a5:=lf_ ay;obtain⟨b0,a2,_⟩:=eR K;have N:=hid_ a2;have ba:=f_ (aE _ (getElem_mem aB));have a6:=hid_ K;have bc:=hid_ (oP K);have ai:=hid_ hv;obtain⟨X,pc,rfl,cj,bx⟩:=aC;obtain⟨aa,bS,bQ,bA,bz,R⟩:=cN a9 aB;obtain rfl:=bA;obtain⟨b5,b6,rfl,b9,bu⟩:=ay;clear bx bu aE K aG a2;obtain⟨aT,⟨cm,bT,aU⟩,bU,bV,b4,bX,aV⟩:=R;have a8:=hid_ aV;have af:=lt_ aU;obtain⟨O,P,rfl,b7,_⟩:=aV;obtain⟨aw,ax,rfl,_⟩:=aU;have cf:(0:Int)<=(n:Int):=Q0;have cg:(n:Int)<(l.length:Int):=Q0;generalize cl:l[n]=r at*;obtain⟨W,aM,cv,cw,p5,p6,cy⟩:=ba;have a3:=hid_ aM;have ad:=hid_ ((nS W N ai.out).1);have hpr:=rB W;obtain⟨eh,heh⟩:∃eh:Nat,r.head.pred=(eh:Int):=⟨_,hpr.2⟩;have J:eh<ps.length:=Uz;have HKD:=hid_ (Ai N (fd.2 ⟨eh,J,heh⟩));clear W aM hpr;have bj:∀(o:Nat) (u v a1:Obj),(((w.alloc u).alloc v).alloc a1).cell? ⟨aa,o,none⟩=w.cell? ⟨aa,o,none⟩:=λo u v a1=>bF ((((Below.refl _ _).alloc (le_refl _) _).alloc Q1 _).alloc RD _) bz;rw[heh] at aT;have ab:=hid_ heh;clear heh;go_enter func97,ntmps97;go_wp2_with fail;obtain⟨i,hW1⟩:=ex_ (((((w.alloc (.cells #[.slice X ps pc,.slice (some ⟨aa,bS,none⟩) l bQ] 30)).alloc (.cells #[v.x,v.y,v.z] 138)).alloc (.cells #[.int .i64 0,.int .i64 0,.int .i64 0,.int .i64 0] 93)).alloc (.cells #[eh,.slice aw r.head.args ax,r.src,r.n,.slice O r.body P] 58)));have ak:Below w w i:=by rw[<-hW1];exact((((Below.refl _ _).alloc (le_refl _) _).alloc Q1 _).alloc RD _).alloc RD _
 have cz:i.heap.size=w.heap.size+4:=UA;have aO:i.cell? w=some (.slice X ps pc):=UB;have aP:i.cell? ⟨w.heap.size+1,0,none⟩=some (.int .i64 v.x):=UB;have aQ:i.cell? ⟨w.heap.size+1,1,none⟩=some (.int .i64 v.y):=UB;have aR:i.cell? ⟨w.heap.size+1,2,none⟩=some (.int .i64 v.z):=UB;have Y:i.cell? ⟨w.heap.size+3,1+1,none⟩=some (.int .i64 r.src):=UB;have M:i.cell? ⟨w.heap.size+3,3,none⟩=some (.int .i64 r.n):=UB;have Z:i.cell? ⟨w.heap.size+3,4,none⟩=some (.slice O r.body P):=UB
 have h:∀o,o<4->i.cell? ⟨w.heap.size+2,o,none⟩=some (.int .i64 0)/\i.frozen? ⟨w.heap.size+2,o,none⟩=false:=by
  exact ZY
 rw[hW1];clear hW1 bj aT bT bU bV bX;obtain⟨BR,G⟩:=ex_ (w.heap.size+1+1+1);obtain⟨c,F⟩:=ex_ (w.heap.size+1+1);obtain⟨E,I⟩:=ex_ (w.heap.size+1);rw[show w.heap.size+3=BR from G] at Y M Z;rw[show w.heap.size+2=c from F] at h;rw[I] at aP aQ aR;have bG:BR=w.heap.size+3:=G.symm;have bE:c=w.heap.size+2:=F.symm;have bI:=I.symm;have ac:=xC i (.slice aw r.head.args ax) (eh:Int) r.head.args v (af _ ak) ad.out;refine mo_ ac λw2 hb2=>?_;have d:Hid (∀x,Below w2 w2 x->∀m o,m<w.heap.size+4->x.cell? ⟨m,o,none⟩=i.cell? ⟨m,o,none⟩):=λx U m o bt=>(bF U UC).trans (bF hb2 Q0);have t:=hid_ λx (U:Below w2 w2 x) m o (bt:m<w.heap.size+4)=>(U.frozen (p:=⟨m,o,none⟩) (show m<w2.heap.size by have:=hb2.size;omega)).trans (hb2.frozen (p:=⟨m,o,none⟩) (show m<i.heap.size by omega));have al:=bt_ ak hb2;have cA:w.heap.size+4<=w2.heap.size:=UC;have cr:BR<w.heap.size+4:=Q0;have j:w.heap.size<=c:=Q0;have cu:w.heap.size<=BR:=Q0;have cq:c<w.heap.size+4:=Q0;have cs:E<w.heap.size+4:=Q0;have br:∀o,(w2.alloc o).cell? ⟨BR,3,none⟩=some (.int .i64 r.n):=λo=>(d _ (bH _ _) BR 3 Q0).trans M;rw[G,F,I];clear ac af ad G F I bG bE bI hb2;go_wp2_with fail;clear br;go_loopw [12] (λV wr=>∃k:Nat,k<=r.body.length/\V=.int .i64 k/\Below w2 w2 wr/\w2.heap.size<wr.heap.size/\Hid (cS f v (r.body.take k)=true)/\ wr.cell? w2=some (.int .i64 (eh:Int))/\wr.cell? ⟨w2,1,none⟩=some (.int .i64 (bZ v r.head.args 0))/\wr.cell? ⟨w2,2,none⟩=some (.int .i64 (bZ v r.head.args 1))/\wr.cell? ⟨w2,3,none⟩=some (.int .i64 (dI ps f r v k))/\wr.frozen? ⟨w2,3,none⟩=false) (λV _=>r.body.length-(intOf V).toNat)
 case atStart=>exact⟨0,zero_le _,rfl,bH _ _,Q1,rfl,Re,Re,Re,by simp[go_sem,Hr],Re⟩
 obtain⟨k,ca,rfl,g,A,T,aW,aX,aY,aZ,a0⟩:=hrel;have bk:=(d _ g w.heap.size 0 Q0).trans aO;have am:=(d _ g E 0 Q0).trans aP;have an:=(d _ g E 1 Q0).trans aQ;have ao:=(d _ g E 2 Q0).trans aR;have bl:=(d _ g BR (1+1) Q0).trans Y;have bm:=(d _ g BR 3 Q0).trans M;have ap:=(d _ g BR 4 Q0).trans Z;have q:=bt_ al g;by_cases D:k<r.body.length
 .obtain⟨bB,bD,bC,hv,L,R⟩:=cN a8 D;obtain⟨rfl,rfl⟩:O=some ⟨bB,bD,none⟩/\P=bC:=SC;obtain⟨aH,aI,b3,aJ,aK⟩:=R;have a4:=lt_ aK;obtain⟨b1,b2,rfl,_⟩:=aK;obtain⟨aA,az⟩:=nS (v:=v) (a3 _ (getElem_mem D)) N ai.out;have a7:=hid_ aA;have bb:Hid (eF ⟨r.body[k].atom.pred,bZ v r.body[k].atom.args 0,bZ v r.body[k].atom.args 1,0⟩):=mC b0 az;have ah:Hid (kD f v r.body[k]=(cd f (bL ⟨r.body[k].atom.pred,bZ v r.body[k].atom.args 0,bZ v r.body[k].atom.args 1,0⟩)).isSome):=rfl;have aj:=Hq (ps:=ps) (f:=f) (v:=v) D;have HVT':Hid (dI ps f r v (k+1)=if(k:Int)=r.src then fG (bJ ps r.head.pred) (eK f (bL ⟨r.body[k].atom.pred,bZ v r.body[k].atom.args 0,bZ v r.body[k].atom.args 1,0⟩)) r.n else dI ps f r v k):=aj;have HNO:Hid (kD f v r.body[k]=r.body[k].neg->cS f v r.body=false):=G8 D
  have HYES:Hid (kD f v r.body[k]≠r.body[k].neg->cS f v (r.body.take (k+1))=true):=λbs=>by
   rw[cS,mz D];rw[show(r.body.take k).all (lD f v)=true from T.out];unfold lD;simpa using bs
  clear hv aA az aj T;have aq:=(bF q L).trans aH;have ar:=(bF q L).trans aI;have au:=(bF q L).trans aJ;have S:=lt_of_lt_of_le L q.size;have cc:(0:Int)<=(k:Int):=Q0;have ce:(k:Int)<(r.body.length:Int):=Q0;have hf15:=rh a6 (bL ⟨r.body[k].atom.pred,bZ v r.body[k].atom.args 0,bZ v r.body[k].atom.args 1,0⟩);clear aH aI aJ;generalize r.body[k]=B at*;go_wp2_with fail;have bd:=lo_ Q0 ap;have be:=lo_ S ar;have bf:=lo_ S au;have bg:=lo_ Q0 am;have bh:=lo_ Q0 an;have bi:=lo_ Q0 ao;refine dz wr.heap.size SI SI ?_
  repeat(go_big_quiet_step (first
   |(go_at_call 143;exact dy (xC _ _ _ B.atom.args v (a4 _ (q.trans ((Low.low _).mono q.size))) a7.out))
   |(go_at_call 99;exact dy (vS _ _ f _ _ _ _ (a5 _ (q.trans ((Low.low _).mono q.size))) bc bb.out))))
  refine wpQuiet_nil ?_;rintro w3 ⟨⟨_,s⟩,rfl⟩;clear bd be bf bg bh bi;rw[<-ah.out];have y0:=(bF s A).trans aW;have y1:=(bF s A).trans aX;have y2:=(bF s A).trans aY;have y3:=(bF s A).trans aZ;have y3f:=(s.frozen (p:=⟨w2,3,none⟩) A).trans a0;have hsz3:=lt_of_lt_of_le A s.size;have hb23:=bt_ g s;have Q:=bt_ al hb23;have i0:=(d _ hb23 w 0 Q0).trans aO;have cn:=(d _ hb23 BR (1+1) Q0).trans Y;have i5:=(d _ hb23 BR 3 Q0).trans M;have cp:=(d _ hb23 BR 4 Q0).trans Z;have ct:=(bF s S).trans aq;obtain⟨pb,po,bM,aF,ch,aD⟩:=cN (ag _ Q) J;obtain⟨rfl,rfl⟩:X=some ⟨pb,po,none⟩/\pc=bM:=by simpa using aF
  have pk:w3.cell? ⟨pb,po+eh*3+2,none⟩=some (.int .i64 (bJ ps r.head.pred)):=by
   rw[aD.2.2,ab.out,bJ,Int.toNat_natCast,List.getElem?_eq_getElem J];rfl
  have ci:pb<w.heap.size:=by
   obtain⟨bK,bP,bN,bw,bv,_⟩:=cN (ag _ (Below.refl _ _)) J;obtain⟨⟨rfl,_⟩,_⟩:(pb=bK/\po=bP)/\pc=bN:=by simpa using bw
   exact bv
  have b8:(eh:Int)<(ps.length:Int):=Q0;clear aF aD;have r0:=(d _ hb23 c 0 Q0).trans (h 0 Q0).1;have r1:=(d _ hb23 c 1 Q0).trans (h 1 Q0).1;have r2:=(d _ hb23 c 2 Q0).trans (h 2 Q0).1;have r3:=(d _ hb23 c 3 Q0).trans (h 3 Q0).1;have bn:=(t _ hb23 c 0 Q0).trans (h 0 Q0).2;have bo:=(t _ hb23 c 1 Q0).trans (h 1 Q0).2;have bp:=(t _ hb23 c 2 Q0).trans (h 2 Q0).2;have bq:=(t _ hb23 c 3 Q0).trans (h 3 Q0).2;clear aW aX aY aZ a0 bk am an ao bl bm ap aq ar au ah s;generalize eK f (bL ⟨B.atom.pred,bZ v B.atom.args 0,bZ v B.atom.args 1,0⟩)=fv' at*;generalize kD f v B=bY at*;generalize B.neg=aL at*;cases bY
  .cases aL
   .have H:=hid_ (HNO rfl);clear HNO HYES;go_wp2_with fail;have C:Hid (dl ps f r v=⟨0,0,0,0⟩):=by show _=_;rw[dl,H.out];rfl
    refine bodyPost_ret (v:=.tuple #[.bool false,.agg #[.int .i64 0,.int .i64 0,.int .i64 0,.int .i64 0]]) UD rfl ⟨by rw[H.out,C.out],?_⟩;exact(((Q.setCell (p:=⟨c,0,none⟩) j _).setCell (p:=⟨c,1,none⟩) j _).setCell (p:=⟨c,2,none⟩) j _).setCell (p:=⟨c,3,none⟩) j _
   exact ae0
  cases aL
  .exact ae0
  have H:=hid_ (HNO rfl);clear HNO HYES;go_wp2_with fail;have C:Hid (dl ps f r v=⟨0,0,0,0⟩):=by show _=_;rw[dl,H.out];rfl
  refine bodyPost_ret (v:=.tuple #[.bool false,.agg #[.int .i64 0,.int .i64 0,.int .i64 0,.int .i64 0]]) UD rfl ⟨by rw[H.out,C.out],?_⟩;exact(((Q.setCell (p:=⟨c,0,none⟩) j _).setCell (p:=⟨c,1,none⟩) j _).setCell (p:=⟨c,2,none⟩) j _).setCell (p:=⟨c,3,none⟩) j _
 obtain rfl:k=r.body.length:=Q0;have H:Hid (cS f v r.body=true):=by have:=T.out;rwa[List.take_length] at this
 have r0:=(d _ g c 0 Q0).trans (h 0 Q0).1;have r1:=(d _ g c 1 Q0).trans (h 1 Q0).1;have r2:=(d _ g c 2 Q0).trans (h 2 Q0).1;have r3:=(d _ g c 3 Q0).trans (h 3 Q0).1;have bn:=(t _ g c 0 Q0).trans (h 0 Q0).2;have bo:=(t _ g c 1 Q0).trans (h 1 Q0).2;have bp:=(t _ g c 2 Q0).trans (h 2 Q0).2;have bq:=(t _ g c 3 Q0).trans (h 3 Q0).2;go_wp2_with fail;go_region
 all_goals
  go_wp2_with fail;have C:Hid (dl ps f r v=⟨(eh:Int),bZ v r.head.args 0,bZ v r.head.args 1,dI ps f r v r.body⟩):=by show _=_;rw[dl,H.out,if_pos rfl,co,ab.out]
  refine bodyPost_ret (v:=.tuple #[.bool true,.agg #[eh,.int .i64 (bZ v r.head.args 0),.int .i64 (bZ v r.head.args 1),.int .i64 (dI ps f r v r.body)]]) UD rfl ⟨by rw[H.out,C.out],?_⟩;exact((((q.setCell (p:=⟨c,0,none⟩) j _).setCell (p:=⟨c,1,none⟩) j _).setCell (p:=⟨c,2,none⟩) j _).setCell (p:=⟨c,3,none⟩) j _).drew
theorem Hv{c h}{d:Exit->Act->World->Prop}{g:Act}{a:World}(b:World->Prop)(j:b a)(i:∀f,b f->Code.wp c h d g f):Code.wp c h d g a:=i a j
def iF(ps:List Prd)(rs:List Rul)(f:List Fct)(n:Int)(v:ae):Bool:=if f9 ps rs f n v≠0 then false else cS f v ((rs[n.toNat]?.map Rul.body).getD [])
def gL(ps:List Prd)(rs:List Rul)(f:List Fct)(n:Int)(v:ae):Fct:=if f9 ps rs f n v≠0 then⟨0,0,0,0⟩ else(rs[n.toNat]?.map λr=>dl ps f r v).getD ⟨0,0,0,0⟩
theorem Ah{b c f n}(a:ev b c f n=0):bP b c=0/\bW b f=0/\0<=n/\n<(c.length:Int):=by
 rw[ev] at a;split at a
 .contradiction
 rename_i h1;split at a
 .contradiction
 rename_i h2;split at a
 .rename_i h3;exact⟨Classical.not_not.1 h1,Classical.not_not.1 h2,h3⟩
 cases a
theorem eU{b c}(d:bP b c=0):∀f∈c,cx b f=0:=by
 have a:=(gO d).1;rw[ej] at a;split at a
 .contradiction
 split at a
 .contradiction
 split at a
 .contradiction
 split at a
 .contradiction
 split at a
 .contradiction
 exact pV a
structure Stp where
 rule:Int
 x:Int
 y:Int
 z:Int
deriving instance DecidableEq for Stp
def wA(w:World)(b o:Nat)(s:Stp):Prop:=
 w.cell? ⟨b,o,none⟩=some (.int .i64 s.rule)/\w.cell? ⟨b,o+1,none⟩=some (.int .i64 s.x)/\w.cell? ⟨b,o+2,none⟩=some (.int .i64 s.y)/\w.cell? ⟨b,o+3,none⟩=some (.int .i64 s.z)
abbrev cL:World->Value->List Stp->Prop:=jm 4 wA
theorem wA.a:nT wA:=λ_ _ _ _ _ b c ⟨d,f,g,h⟩=>⟨(bF b c).trans d,(bF b c).trans f,(bF b c).trans g,(bF b c).trans h⟩
theorem cL.a{b d:World}{c f}(h:Below b b d)(g:cL b c f):cL d c f:=jm.a wA.a h g
theorem nj{c:World}{g f}(i:cL c g f){b}(j:b<f.length):∃a d h,g=.slice (some ⟨a,d,none⟩) f h/\a<c.heap.size/\wA c a (d+b*4) f[b]:=cN i j
theorem ls_{w:World}{v l}(h:cL w v l):Go.RowKit.Hid (∀x,Below w.heap.size w x→cL x v l):=fun _ k=>cL.a k h
theorem UG(h:p:=by rw[<-hW1];exact(((Below.refl _ _).alloc (le_refl _) _).alloc (by simp) _).alloc (by simp;omega) _):p:=h
theorem abr(h:p:=by rw[qh Q0,if_neg Q0];exact hall j hj):p:=h
theorem Hl(d:World)(c s v P)(S:cr d (.slice s c.head.args v) c.head.args)(Q:dC d P c.body):Calls prog 142 #[.agg #[c.head.pred,.slice s c.head.args v,c.src,c.n,P]] d λe au=>e=.returned (.agg #[.bool (dj c 0),.bool (dj c 1),.bool (dj c 2)])/\Below d d au:=by
 have af:=lt_ S;have ag:=hid_ Q;obtain⟨x,y,rfl,aE,_⟩:=Q;clear S;go_enter func142,ntmps142;go_wp2_with fail;obtain⟨m,hW1⟩:=ex_ (((d.alloc (.cells #[c.head.pred,.slice s c.head.args v,c.src,c.n,.slice x c.body y] 58)).alloc (.cells #[.bool false,.bool false,.bool false] 194)).alloc (.cells #[.bool false,.bool false,.bool false] 194));have O:Below d d m:=UG;have aO:m.heap.size=d.heap.size+3:=UA;have ac:m.cell? d=some (.int .i64 c.head.pred):=UB;have ad:m.cell? ⟨d,1,none⟩=some (.slice s c.head.args v):=UB;have ae:m.cell? ⟨d,4,none⟩=some (.slice x c.body y):=UB
 have i:dq m (d.heap.size+1) ([false,false,false].map kf):=by
  rw[<-hW1];have:=oY (w:=d.alloc (.cells #[c.head.pred,.slice s c.head.args v,c.src,c.n,.slice x c.body y] 58)) (vs:=[false,false,false].map kf) (t:=194);simp only[World.size_alloc] at this;exact this.a (n:=d.heap.size+2) (Bl _ _ Q1) Q0
 have h:dq m (d.heap.size+1+1) ([false,false,false].map kf):=by
  rw[<-hW1];have:=oY (w:=(d.alloc (.cells #[c.head.pred,.slice s c.head.args v,c.src,c.n,.slice x c.body y] 58)).alloc (.cells #[.bool false,.bool false,.bool false] 194)) (vs:=[false,false,false].map kf) (t:=194);simp only[World.size_alloc] at this;exact this
 rw[hW1];clear hW1
 have J:Hid (∀o,Below (d.heap.size+2) m o->o.cell? d=some (.int .i64 c.head.pred)/\o.cell? ⟨d,1,none⟩=some (.slice s c.head.args v)/\o.cell? ⟨d,4,none⟩=some (.slice x c.body y)/\Below d d o/\dq o (d.heap.size+1) ([false,false,false].map kf)):=λo A=>
  ⟨by rw[A.cell (p:=⟨d,0,none⟩) Q1];exact ac,by rw[A.cell (p:=⟨d,1,none⟩) Q1];exact ad,by rw[A.cell (p:=⟨d,4,none⟩) Q1];exact ae,O.trans (A.mono Q0),i.a A Q0⟩
 clear ac ad ae i O;go_loopw [4] (λw wr=>∃(f:Nat) (k:List Bool),f<=3/\w=.int .i64 f/\k.length=3/\Hid (∀j:Nat,j<f->ki k j=dj c j)/\dq wr (d.heap.size+1+1) (k.map kf)/\d.heap.size+1+1<wr.heap.size/\Below (d.heap.size+2) m wr) (λw _=>3-(intOf w).toNat)
 case atStart=>exact⟨0,[false,false,false],Q0,rfl,rfl,λj hj=>absurd hj Q0,h,Q0,Below.refl _ _⟩
 clear h;obtain⟨f,k,aL,rfl,U,hall,h,hsz,r⟩:=hrel;obtain⟨B,C,I,u,i⟩:=J _ r;by_cases aH:f<3
 .have aM:(0:Int)<=(f:Int):=Q0;have aN:(f:Int)<3:=Q0;have z:=hid_ h;clear h i;go_wp2_with fail;refine mo_ (rJ _ _ _ _ c.head.args (af _ u)) λav hb2=>?_;have h:=z.out.a hb2 hsz;have K:=r.trans (hb2.mono Q0);have V:d.heap.size+1+1<av.heap.size:=UC;obtain⟨q,E⟩:=lG h (k:=f) Q0;clear B C I z hb2 u;obtain⟨B,C,I,u,i⟩:=J _ K;clear i r hsz;go_wp2_with fail;go_loopw [5] (λw wr=>∃(g:Nat) (l:List Bool),g<=c.body.length/\w=.int .i64 g/\l.length=3/\Hid (∀j:Nat,j<f->ki l j=dj c j)/\Hid (ki l f=(ff c.head.args (f:Int)||(c.body.take g).any λk=>ff k.atom.args (f:Int)))/\dq wr (d.heap.size+1+1) (l.map kf)/\d.heap.size+1+1<wr.heap.size/\Below (d.heap.size+2) m wr) (λw _=>c.body.length-(intOf w).toNat)
  case atStart=>
   refine⟨0,k.set f (ff c.head.args (f:Int)),zero_le _,rfl,by rw[length_set];exact U,λj hj=>?_,?_,pR h Q0 _,by rw[cF];exact V,K.setCell (p:=⟨d.heap.size+1+1,f,none⟩) Q1 _⟩
   .exact abr
   show _=_;rw[qh Q0,if_pos rfl,List.take_zero,List.any_nil,Bool.or_false]
  clear B C I u h K V q E hall U;obtain⟨g,l,aF,rfl,L,hall,H,h,hsz,r⟩:=hrel;obtain⟨B,C,I,u,i⟩:=J _ r;obtain⟨q,E⟩:=lG h (k:=f) Q0;clear i;by_cases T:g<c.body.length
  .obtain⟨ab,ar,aq,X,ao,R⟩:=cN ag T;obtain⟨rfl,rfl⟩:x=some ⟨ab,ar,none⟩/\y=aq:=by simpa using X
   obtain⟨aI,aJ,aP,aQ,aK,W⟩:=(oL.b d wr ab _ _ u ao R).a;have ai:=hid_ W
   have N:Hid ((ff c.head.args (f:Int)||(c.body.take (g+1)).any λk=>ff k.atom.args (f:Int))=(ki l f||ff c.body[g].atom.args (f:Int))):=by
    show _=_;rw[H.out,j5 T,Bool.or_assoc]
   clear X R W H B C;have aG:(0:Int)<=(g:Int):=Q0;have an:(g:Int)<(c.body.length:Int):=Q0;generalize c.body[g]=o at*;cases G:ki l f
   .rw[G] at q;have z:=hid_ h;clear h;go_wp2_with fail;refine mo_ (rJ _ _ _ _ o.atom.args ai.out) λaw F=>?_;have h:=z.out.a F hsz;have al:=r.trans (F.mono Q0);have ap:d.heap.size+1+1<aw.heap.size:=by have:=F.size;omega
    clear q E;obtain⟨q,E⟩:=lG h (k:=f) Q0;clear z F;go_wp2_with fail;refine⟨⟨g+1,l.set f (ff o.atom.args (f:Int)),Q0,Rv,by rw[length_set];exact L,λj hj=>?_,?_,pR h Q0 _,by rw[cF];exact ap,al.setCell (p:=⟨d.heap.size+1+1,f,none⟩) Q1 _⟩,S6⟩
    .exact abr
    show _=_;rw[qh Q0,if_pos rfl,N.out,G,Bool.false_or]
   rw[G] at q;go_wp2_with fail;refine⟨⟨g+1,l.set f true,Q0,Rv,by rw[length_set];exact L,λj hj=>?_,?_,pR h Q0 _,S7,r.setCell (p:=⟨d.heap.size+1+1,f,none⟩) Q1 _⟩,S6⟩
   .exact abr
   show _=_;rw[qh Q0,if_pos rfl,N.out,G,Bool.true_or]
  have an:¬(g:Int)<(c.body.length:Int):=Q0
  have ah:Hid (∀j:Nat,j<f+1->ki l j=dj c j):=λj hj=>by
   by_cases e:j=f
   .rw[e,H.out,List.take_of_length_le Q0];rfl
   exact hall j Q0
  clear hall H;go_wp2_with fail;exact⟨⟨f+1,l,Q0,Rv,L,ah.out,h,hsz,r⟩,S6⟩
 obtain rfl:f=3:=Q0;have D:Hid (ki k 0=dj c 0/\ki k 1=dj c 1/\ki k 2=dj c 2):=⟨hall 0 Q0,hall 1 Q0,hall 2 Q0⟩;clear hall;obtain⟨aj,-⟩:=lG h (k:=0) Q0;obtain⟨ak,-⟩:=lG h (k:=1) Q0;obtain⟨q,-⟩:=lG h (k:=2) Q0;obtain⟨ay,aB⟩:=lG i (k:=0) Q1;obtain⟨az,aC⟩:=lG i (k:=1) Q1;obtain⟨aA,aD⟩:=lG i (k:=2) Q1;rw[D.out.1] at aj;rw[D.out.2.1] at ak;rw[D.out.2.2] at q;clear D;go_wp2_with fail;have am:Below d d (((wr.setCell ⟨d.heap.size+1,0,none⟩ (.bool (dj c 0))).setCell ⟨d.heap.size+1,1,none⟩ (.bool (dj c 1))).setCell ⟨d.heap.size+1,2,none⟩ (.bool (dj c 2))):=((u.setCell (p:=⟨d.heap.size+1,0,none⟩) Q1 _).setCell (p:=⟨d.heap.size+1,1,none⟩) Q1 _).setCell (p:=⟨d.heap.size+1,2,none⟩) Q1 _;have M:=pR (pR (pR i (k:=0) Q1 (dj c 0)) (k:=1) Q1 (dj c 1)) (k:=2) Q1 (dj c 2);generalize((wr.setCell ⟨d.heap.size+1,0,none⟩ (.bool (dj c 0))).setCell ⟨d.heap.size+1,1,none⟩ (.bool (dj c 1))).setCell ⟨d.heap.size+1,2,none⟩ (.bool (dj c 2))=ax at*;obtain⟨Y,-⟩:=lG M (k:=0) Q1;obtain⟨Z,-⟩:=lG M (k:=1) Q1;obtain⟨aa,-⟩:=lG M (k:=2) Q1;simp only[List.set_cons_zero,List.set_cons_succ,ki,List.getD_cons_zero,List.getD_cons_succ] at Y Z aa;refine bodyPost_ret (v:=.agg #[.bool (dj c 0),.bool (dj c 1),.bool (dj c 2)]) (by simp[results,results142,go_sem,Y,Z,aa]) rfl ⟨rfl,am⟩
def bS(ps:List Prd)(rs:List Rul)(f:List Fct):Int:=if bP ps rs≠0 then bP ps rs else bW ps f
theorem He(b:World)(o p j a c f)(m:bR b o a)(n:ck b p c)(k:bO b j f)(l:dU a):Calls prog 101 #[.agg #[o,p],j] b λe w=>e=.returned (.int .i64 (bS a c f))/\Below b b w:=by
 have g:=lp_ m;have i:=lr_ n;have r:=lf_ k;obtain⟨F,G,rfl,D,u⟩:=m;obtain⟨H,I,rfl,E,v⟩:=n;obtain⟨A,B,rfl,C,t⟩:=k;clear u v t;by_cases h:bP a c=0
 .rw[bS,if_neg (by simp[h])];go_enter func101,ntmps101;go_wp2_with fail;refine(tY _ _ _ a c (g _ (bH _ _)) (i _ (bH _ _)) l).mono ?_;rw[h];rintro e x ⟨rfl,hb1⟩;have q:=tX hb1;obtain⟨y,z,_⟩:=id q;have d:=cU (bH _ _) hb1;clear hb1;go_wp2_with fail;refine mo_ (FV _ _ _ a f (g _ d) (r _ d)) λJ s=>?_;go_wp2_with fail;go_ret;exact⟨rfl,d.trans (s.mono d.size)⟩
 rw[bS,if_pos h];go_enter func101,ntmps101;go_wp2_with fail;refine mo_ (tY _ _ _ a c (g _ (bH _ _)) (i _ (bH _ _)) l) λx hb1=>?_;exact Zd
def j8(x:Fct)(k:Nat):Int:=if k=0 then x.a else x.b
def eB(x:Fct)(ts:List Tm):Nat->Int->Option Int
 |0,_=>none
 |k+1,m=>match eB x ts k m with
  |some v=>some v
  |none=>match ts[k]? with
   |some t=>if t.var&&t.n==m then some (j8 x k) else none
   |none=>none
def m9(x:Fct)(ts:List Tm)(k:Nat)(t:Tm):Bool:=if t.var then(match eB x ts k t.n with|some v=>v==j8 x k|none=>true) else t.n==j8 x k
def gX(x:Fct)(ts:List Tm):Nat->Bool
 |0=>true
 |k+1=>gX x ts k&&match ts[k]? with
  |some t=>m9 x ts k t
  |none=>true
def kV(x:Fct)(ts:List Tm):Bool:=gX x ts ts.length
theorem vP{b a k}(c:k<a.length):gX b a (k+1)=(gX b a k&&m9 b a k a[k]):=by
 rw[gX,List.getElem?_eq_getElem c]
theorem zm{c a k}(d:k<a.length)(b):eB c a (k+1) b=match eB c a k b with|some f=>some f|none=>if a[k].var&&a[k].n==b then some (j8 c k) else none:=by
 rw[eB,List.getElem?_eq_getElem d]
theorem zn{c b k}:∀{n:Nat},gX c b (k+n)=true->gX c b k=true
 |0,a=>a
 |n+1,a=>by
  rw[show k+(n+1)=(k+n)+1 by omega,gX] at a
  exact zn (n:=n) (Bool.and_eq_true_iff.1 a).1
theorem zo{b a k}(c:k<a.length)(d:m9 b a k a[k]=false):kV b a=false:=by
 cases e:kV b a
 .rfl
 have:gX b a (k+1)=true:=zn (n:=a.length-(k+1)) (by rw[show k+1+(a.length-(k+1))=a.length by omega];exact e);rw[vP c,d] at this;simp at this
theorem zl{d j}(f:0<=d.a/\d.a<=4)(g:0<=d.b/\d.b<=4):∀{k:Nat} {i c:Int},eB d j k i=some c->0<=c/\c<=4
 |0,_,_,h=>Rm
 |k+1,i,c,h=>by
  rw[eB] at h
  split at h
  .rename_i u hu
   obtain rfl:u=c:=Q2
   exact zl f g hu
  split at h
  .split at h
   .obtain rfl:j8 d k=c:=Q2
    unfold j8
    split
    .exact f
    exact g
   cases h
  cases h
def iR(a:Atm)(x:Fct):Bool:=x.pred==a.pred&&kV x a.args
def dJ(f:List Fct)(a:Atm):List Fct:=f.filter (iR a)
theorem zs{f:List Fct}{a:Atm}{k:Nat}(b:k<f.length):dJ (f.take (k+1)) a=dJ (f.take k) a++if iR a f[k] then[f[k]] else[]:=by
 unfold dJ;rw[List.take_add_one,List.getElem?_eq_getElem b,Option.toList_some,List.filter_append,List.filter_cons,List.filter_nil]
def l9(w:World)(B:Nat)(f:Int->Option Int):Prop:=w.cell? B=some (.int .i64 ((f 0).getD (-1)))/\w.cell? ⟨B,1,none⟩=some (.int .i64 ((f 1).getD (-1)))/\w.cell? ⟨B,2,none⟩=some (.int .i64 ((f 2).getD (-1)))/\∀o,w.frozen? ⟨B,o,none⟩=false
theorem l9.b{g:World}{a}{f c:Int->Option Int}(h:l9 g a f)(e:∀d,c d=f d):l9 g a c:=by
 unfold l9;rw[e,e,e];exact h
theorem l9.a{h j:World}{b}{f:Int->Option Int}(c:l9 h b f)(g:Below h h j)(d:b<h.heap.size):l9 j b f:=
 ⟨(bF g d).trans c.1,(bF g d).trans c.2.1,(bF g d).trans c.2.2.1,λi=>(g.frozen (p:=⟨b,i,none⟩) d).trans (c.2.2.2 i)⟩
theorem l9.c{o:World}{h:Nat}{f:Int->Option Int}(p:l9 o h f){a:Nat}(q:a<=2)(m:Int){n:Int->Option Int}(e:∀d,n d=if d=(a:Int) then some m else f d):l9 (o.setCell ⟨h,a,none⟩ m) h n:=by
 obtain⟨i,j,k,l⟩:=p;refine l9.b (f:=λd=>if d=(a:Int) then some m else f d) ?_ e;obtain rfl|rfl|rfl:a=0\/a=1\/a=2:=Q0
 .exact⟨fC i,(cP Q0).trans j,(cP Q0).trans k,λg=>by rw[gI];exact l g⟩
 .exact⟨(cP Q0).trans i,fC j,(cP Q0).trans k,λg=>by rw[gI];exact l g⟩
 exact⟨(cP Q0).trans i,(cP Q0).trans j,fC k,λg=>by rw[gI];exact l g⟩
theorem l9.d{g:World}{c}{f:Int->Option Int}(b:l9 g c f){a}(h:a<=2):g.cell? ⟨c,a,none⟩=some (.int .i64 ((f (a:Int)).getD (-1))):=by
 obtain rfl|rfl|rfl:a=0\/a=1\/a=2:=Q0
 .exact b.1
 .exact b.2.1
 exact b.2.2.1
theorem UM(h:p:=by show w.heap.size<=w.heap.size+1+1;omega):p:=h
theorem afb(h:p:=by
 have hB2:Below w w (wr.setCell ⟨w.heap.size+1+1,e,none⟩ u):=hbr.setCell (p:=⟨w.heap.size+1+1,e,none⟩) UM _
 have hA2:=bH (wr.setCell ⟨w.heap.size+1+1,e,none⟩ u) o
 exact⟨hB2.trans (hA2.mono hB2.size),le_trans hsz (le_trans (by rw[cF];exact le_refl _) hA2.size),λb q hb=>((bF hA2 (by rw[cF];omega)).trans (cb Q0)).trans (HOLD b q hb)⟩):p:=h
theorem aaB(h:p:=by
 rw[if_neg hm]
 have:((e:Int)==m)=false:=by simpa using λh=>hm h.symm
 cases eB x a.args k m<;>simp[this]):p:=h
theorem FL(w:World)(Z a x)(ad:cr w Z a.args)(aJ:a.args.length<=2)(aq:∀M∈a.args,M.var=true->0<=M.n/\M.n<=2)(am:0<=x.a/\x.a<=4)(hb:0<=x.b/\x.b<=4):Calls prog 102 #[.agg #[.int .i64 a.pred,Z],.agg #[.int .i64 x.pred,.int .i64 x.a,.int .i64 x.b,.int .i64 x.val]] w λe aD=>e=.returned (.bool (iR a x))/\Below w w aD:=by
 have ai:=lt_ ad;obtain⟨S,T,rfl,_⟩:=ad;obtain⟨f,hW1⟩:=ex_ (((w.alloc (.cells #[.int .i64 a.pred,.slice S a.args.length T] 55)).alloc (.cells #[.int .i64 x.pred,.int .i64 x.a,.int .i64 x.b,.int .i64 x.val] 93)).alloc (.cells #[.int .i64 (-1),.int .i64 (-1),.int .i64 (-1)] 138));have ak:Below w w f:=by rw[<-hW1];exact(((Below.refl _ _).alloc (le_refl _) _).alloc Q1 _).alloc RD _
 have aS:f.heap.size=w.heap.size+1+1+1:=UA;have ar:f.cell? w=some (.int .i64 a.pred):=UB;have au:f.cell? ⟨w,1,none⟩=some (.slice S a.args.length T):=UB;have av:f.cell? ⟨w.heap.size+1,0,none⟩=some (.int .i64 x.pred):=UB;have aw:f.cell? ⟨w.heap.size+1,1,none⟩=some (.int .i64 x.a):=UB;have ax:f.cell? ⟨w.heap.size+1,2,none⟩=some (.int .i64 x.b):=UB
 have ay:l9 f (w.heap.size+1+1) (λ_=>none):=by
  rw[<-hW1];refine⟨Re,Re,Re,?_⟩;intro o;simp[go_sem]
 go_enter func102,ntmps102;go_wp2_with fail;clear hW1;go_loopw [6] (λW wr=>∃k:Nat,k<=a.args.length/\W=.int .i64 k/\Hid (gX x a.args k=true)/\Below w w wr/\f.heap.size<=wr.heap.size/\(∀b o,b<w.heap.size+1+1->wr.cell? ⟨b,o,none⟩=f.cell? ⟨b,o,none⟩)/\l9 wr (w.heap.size+1+1) (eB x a.args k)) (λW _=>a.args.length-(intOf W).toNat)
 case atStart=>exact⟨0,zero_le _,rfl,rfl,ak,le_refl _,λ_ _ _=>rfl,ay⟩
 obtain⟨k,aL,rfl,aa,hbr,hsz,B,ac⟩:=hrel;have aE:=(B w.heap.size 0 Q0).trans ar;have aF:=(B w.heap.size 1 Q0).trans au;have aG:=(B (w.heap.size+1) 0 Q0).trans av;have aH:=(B (w.heap.size+1) 1 Q0).trans aw;have aI:=(B (w.heap.size+1) 2 Q0).trans ax;have HOLD:Hid (∀b o,b<w.heap.size+1+1->wr.cell? ⟨b,o,none⟩=f.cell? ⟨b,o,none⟩):=B;have I:Hid (l9 wr (w.heap.size+1+1) (eB x a.args k)):=ac;clear B ac;by_cases L:k<a.args.length
 .obtain⟨X,Y,aB,ae,aP,P,af⟩:=cN (ai wr hbr) L;obtain⟨rfl,rfl⟩:S=some ⟨X,Y,none⟩/\T=aB:=by simpa using ae
  have aM:(k:Int)<(a.args.length:Int):=Q0;have D:=aq _ (getElem_mem L);have g:Hid (gX x a.args (k+1)=(gX x a.args k&&m9 x a.args k a.args[k])):=vP L;have i:Hid (m9 x a.args k a.args[k]=false->iR a x=false):=λh=>by rw[iR,zo L h,Bool.and_false]
  have r:Hid (∀m,eB x a.args (k+1) m=match eB x a.args k m with|some N=>some N|none=>if a.args[k].var&&a.args[k].n==m then some (j8 x k) else none):=zm L;have ag:Hid (∀{m N:Int},eB x a.args k m=some N->0<=N/\N<=4):=@zl x a.args am hb k;clear ae;have ab:k=0\/k=1:=Q0;have z:w.heap.size+1+1<wr.heap.size:=Q0;have ah:Hid (P=P):=rfl;have az:wr.cell? ⟨X,Y+k*2,none⟩=some (.bool a.args[k].var):=P;have aA:wr.cell? ⟨X,Y+k*2+1,none⟩=some (.int .i64 a.args[k].n):=af;have Q:Hid ((k=0->j8 x k=x.a)/\(k=1->j8 x k=x.b)):=⟨λh=>by rw[h];rfl,λh=>by rw[h];rfl⟩;clear P af ah;unfold m9 at g i;rw[aa.out,Bool.true_and] at g;generalize a.args[k]=M at*;obtain⟨aC,E⟩:=M;dsimp only at g i r D az aA;generalize al:j8 x k=j at*
  have K:(((k:Int)==1)=false/\x.a=j)\/(((k:Int)==1)=true/\x.b=j):=by
   rcases ab with h|h
   .exact .inl ⟨by rw[h];rfl,(Q.out.1 h).symm⟩
   exact .inr ⟨by rw[h];rfl,(Q.out.2 h).symm⟩
  clear ab Q al;have H:Hid (∀O,Below wr wr O->Below w w O/\f.heap.size<=O.heap.size/\∀b o,b<w.heap.size+1+1->O.cell? ⟨b,o,none⟩=f.cell? ⟨b,o,none⟩):=λO V=>⟨hbr.trans (V.mono hbr.size),le_trans hsz V.size,λb o hb=>(bF V Q0).trans (HOLD b o hb)⟩;have l:=hid_ λo=>bH wr o;cases aC
  .have F:Hid (∀m,eB x a.args (k+1) m=eB x a.args k m):=λm=>by rw[r m];cases eB x a.args k m<;>simp
   simp only[Bool.false_eq_true,if_false] at g i;by_cases hn:E=j
   .have t:(E==j)=true:=TD;have G:Hid (gX x a.args (k+1)=true):=by show _=_;rw[g.out,t]
    rcases K with⟨s,rfl⟩|⟨s,rfl⟩
    all_goals
     subst hn;clear g i r t;go_wp2_with fail;go_roundw
     case rel=>exact⟨_,Q0,Rv,G,(H _ (l _)).1,(H _ (l _)).2.1,(H _ (l _)).2.2,(I.out.a (l _) z).b F.out⟩
     simp[intOf];omega
   have t:(E==j)=false:=TD;have ap:(E != j)=true:=TD;have R:Hid (iR a x=false):=i t;rcases K with⟨s,rfl⟩|⟨s,rfl⟩
   all_goals
    clear g i r hn;go_wp2_with fail;go_ret;exact⟨by rw[R.out];rfl,(H _ (l _)).1⟩
  obtain⟨e,rfl,U⟩:∃e:Nat,E=(e:Int)/\e<=2:=⟨E.toNat,by have:=D rfl;omega,by have:=D rfl;omega⟩;simp only[if_true] at g i;have A:=I.out.d U;have aK:(e:Int)<3:=Q0;have J:=I.out.2.2.2 e;cases v:eB x a.args k (e:Int) with
  |none=>
   rw[v] at g i A;have G:Hid (gX x a.args (k+1)=true):=g.out
   have F:Hid (∀m,eB x a.args (k+1) m=if m=(e:Int) then some j else eB x a.args k m):=λm=>by
    rw[r m];by_cases hm:m=(e:Int)
    .rw[hm,v,if_pos rfl];simp
    exact aaB
   have y:Hid (∀o u,Below w w ((wr.setCell ⟨w.heap.size+1+1,e,none⟩ u).alloc o)/\f.heap.size<=((wr.setCell ⟨w.heap.size+1+1,e,none⟩ u).alloc o).heap.size/\∀b q,b<w.heap.size+1+1->((wr.setCell ⟨w.heap.size+1+1,e,none⟩ u).alloc o).cell? ⟨b,q,none⟩=f.cell? ⟨b,q,none⟩):=λo u=>by
    exact afb
   have an:∀o,(wr.alloc o).cell? ⟨w.heap.size+1+1,e,none⟩=some (.int .i64 (-1)):=λo=>(bF (l o) z).trans A;have ao:=λo=>((l o).frozen (p:=⟨w.heap.size+1+1,e,none⟩) z).trans J;clear A J g i r v D;rcases K with⟨s,rfl⟩|⟨s,rfl⟩
   all_goals
    go_wp2_with fail;go_roundw
    case rel=>exact⟨_,Q0,Rv,G,(y _ _).1,(y _ _).2.1,(y _ _).2.2,(I.out.c U _ F.out).a (bH _ _) (by rw[cF];exact z)⟩
    simp[intOf];omega
  |some C=>
   rw[v] at g i A;obtain⟨aQ,aR⟩:=ag v;have aN:(C==(-1:Int))=false:=RD;have aO:(C != (-1:Int))=true:=RD;have an:∀o,(wr.alloc o).cell? ⟨w.heap.size+1+1,e,none⟩=some (.int .i64 C):=λo=>(bF (l o) z).trans A;have ao:=λo=>((l o).frozen (p:=⟨w.heap.size+1+1,e,none⟩) z).trans J;by_cases hn:C=j
   .have t:(C==j)=true:=TD;have G:Hid (gX x a.args (k+1)=true):=by show _=_;rw[g.out];exact t
    have F:Hid (∀m,eB x a.args (k+1) m=if m=(e:Int) then some j else eB x a.args k m):=λm=>by
     rw[r m];by_cases hm:m=(e:Int)
     .rw[hm,v,if_pos rfl,hn]
     exact aaB
    have y:Hid (∀o u,Below w w ((wr.setCell ⟨w.heap.size+1+1,e,none⟩ u).alloc o)/\f.heap.size<=((wr.setCell ⟨w.heap.size+1+1,e,none⟩ u).alloc o).heap.size/\∀b q,b<w.heap.size+1+1->((wr.setCell ⟨w.heap.size+1+1,e,none⟩ u).alloc o).cell? ⟨b,q,none⟩=f.cell? ⟨b,q,none⟩):=λo u=>by
     exact afb
    clear A J g i r v D t;rcases K with⟨s,rfl⟩|⟨s,rfl⟩
    all_goals
     subst hn;go_wp2_with fail;go_roundw
     case rel=>exact⟨_,Q0,Rv,G,(y _ _).1,(y _ _).2.1,(y _ _).2.2,(I.out.c U _ F.out).a (bH _ _) (by rw[cF];exact z)⟩
     simp[intOf];omega
   have t:(C==j)=false:=TD;have ap:(C != j)=true:=TD;have R:Hid (iR a x=false):=i t;clear A J g i r v D hn;rcases K with⟨s,rfl⟩|⟨s,rfl⟩
   all_goals
    go_wp2_with fail;go_ret;exact⟨by rw[R.out];rfl,(H _ (l _)).1⟩
 obtain rfl:k=a.args.length:=Q0;have aj:Hid (iR a x=(x.pred==a.pred)):=by show _=_;rw[iR,show kV x a.args=true from aa.out,Bool.and_true]
 go_wp2_with fail;go_ret;exact⟨by rw[aj.out];rfl,hbr⟩
