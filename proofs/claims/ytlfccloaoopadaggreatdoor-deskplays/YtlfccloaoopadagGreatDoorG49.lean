import Derived.Deep.CutRange
import Derived.Test.YtlfccloaoopadagGreatDoorG48
open Go.Proofs.Tryz
set_option maxRecDepth 100000
set_option maxHeartbeats 0
open Go.World (size_alloc)
open List (setIfInBounds_toArray set_cons_succ set_cons_zero)
open Nat (le_refl le_succ_of_le)
open Or (inl)
namespace Go.Proofs.YtlfccloaoopadagGreatDoor
open Go.ChangeShapes Go.WideShapes Go.ChangeAt Go.RowKit
variable{p:Prop}
theorem M8{p s}(c:p≠[])(d:s≠[]):(bY p s).2.1.length<s.length:=by
 have b:=je c s;have a:=List.length_pos_iff.2 d;cases hc:(bY p s).2.2 with
 |true=>have:=b.2.2 hc;omega
 |false=>
  have:(bY p s).2.1=[]:=by
   cases s with
   |nil=>rfl
   |cons f s=>
    exact aa3
  rw[this];exact a
theorem yM(a):a.toList.isEmpty=decide (bG a=[]):=by
 have b:=nM a ⟨#[]⟩;rw[show(⟨#[]⟩:ByteArray).toList=[] from by unfold ByteArray.toList;rw[ByteArray.toList.loop];rfl,show bG (⟨#[]⟩:ByteArray)=[] from rfl] at b;rw[<-b];cases a.toList<;>rfl
def yB:Value->Nat
 | .string A=>A.size
 |_=>0
structure bs (s:ByteArray) (ps:List Prd) (rvs:List RV) (A:ByteArray):Prop where
 eq:mt (bG s)=jC A.size (ps,rvs.map RV.r) (bG A)
 len:ps.length+rvs.length+A.size<=s.size
 names:∀q∈ps,q.name.size<=4096
theorem XU(h:p:=by simp[results,results12,go_sem,d0,d1]):p:=h
theorem XV(h:p:=by rw[du];have:=HMZ.out;omega):p:=h
theorem XW(h:p:=by show w.heap.size<=(w8.alloc _).heap.size;rw[size_alloc];exact le_succ_of_le HSE.out):p:=h
theorem adU(h:p:=by
 simp only[Act.put]
 refine rd_ 11 rfl λK hK=>?_
 go_simp
 refine hK.out _ _ trivial (λhHeld=>?_)
 clear hK K
 try simp only[sq_]
 refine wpAnyH_done QX ?_ _
 refine NoPanic.normal ?_
 clear c1 c2 q5 qV
 go_wp2_with fail
 go_roundw
 case rel=>exact⟨_,_,_,_,_,rfl,HN9,HREL⟩
 exact HMEA.out):p:=h
theorem ad0(h:p:=by
 simp only[Act.put]
 refine rd_ 9 rfl λK hK=>?_
 go_simp
 refine hK.out _ _ trivial (λhHeld=>?_)
 clear hK K
 try simp only[sq_]
 refine wpAnyH_done QX ?_ _
 refine NoPanic.normal ?_
 clear n1 n2 q5 q5' q6 qV q6' qV'
 go_wp2_with fail
 go_roundw
 case rel=>exact⟨_,_,_,_,_,rfl,HN9,HREL _ _⟩
 exact HMEA.out):p:=h
theorem ZP(h:p:=by
 go_wp2_with fail
 go_meet
 exact⟨by rw[hp],rfl⟩):p:=h
theorem Z4(h:p:=by
 go_wp2_with fail
 exact bodyPost_ret (v:=.tuple #[.agg #[.slice none 0 0,.slice none 0 0],.bool false]) XU rfl ⟨_,_,RZ,by rw[HE.out];exact⟨rfl,rfl⟩,HB9 _ _⟩):p:=h
theorem ad9(h:p:=by
 go_simp
 refine hK.out _ _ trivial (λhHeld=>?_)
 clear hK K
 try simp only[sq_]
 refine rd_ 9 rfl λK hK=>?_
 refine step_append_lies _ SS _ _ 27 SS w 51 i0 (.agg #[.string ByteArray.empty,.int .i64 0,.int .i64 0]) 3 32 underlying27 hi0 hz0 hz1 hz2 SS Q0 pv ps (dP ps) SS HV.out.preds.2 ⟨w8.drew.heap.size,0,none⟩ 1 1 [.string NM,.int .i64 n1,.int .i64 n2] SS SS mr XA Q0 Tk Q0 XW (w8.drew.heap.size+1) (size_alloc _ _) ?_
 intro g9 cap9 W9 hown9 hgrow9 hat9 hlt9
 obtain⟨c1,c2,HN9⟩:=vm (q:=⟨NM,n1,n2⟩) hN1 HV hps Tn To
 clear hat9 hlt9 hown9 hgrow9
 refine hK.out _ _ trivial (λhHeld=>?_)
 clear hK K
 try simp only[Act.put,setIfInBounds_toArray]
 refine tk_ 10 ?_ rfl ?_ ?_
 rotate_left
 .exact Ys
 exact adU):p:=h
theorem aeb(h:p:=by
 refine hK.out _ _ trivial (λhHeld=>?_)
 clear hK K
 try simp only[sq_]
 refine rd_ 6 rfl λK hK=>?_
 go_simp
 refine hK.out _ _ trivial (λhHeld=>?_)
 clear hK K
 try simp only[sq_]
 refine rd_ 7 rfl λK hK=>?_
 refine step_append_lies _ SS _ _ 28 SS w 58 i0 (.agg #[.int .i64 0,.slice none 0 0,.int .i64 0,.int .i64 0,.slice none 0 0]) 5 72 underlying28 hi0 hz0 hz1 hz2 SS Q0 u rvs (ci rvs) SS HV.out.own ⟨w7,0,none⟩ 1 1 [.int .i64 r.head.pred,.slice ha r.head.args hc,.int .i64 r.src,.int .i64 r.n,.slice ba r.body bc] SS SS oE XH Q0 Tk Q0 Tl (w7.heap.size+1) (size_alloc _ _) ?_
 intro g9 cap9 W9 hown9 hgrow9 hat9 hlt9
 obtain⟨n1,n2,HN9⟩:=vu hN1 HV HOA HOB Tn To
 clear hat9 hlt9 hown9 hgrow9
 refine hK.out _ _ trivial (λhHeld=>?_)
 clear hK K
 try simp only[Act.put,setIfInBounds_toArray]
 refine tk_ 8 ?_ rfl ?_ ?_
 rotate_left
 .exact Ys
 exact ad0):p:=h
theorem aeC(h:p:=by
 go_simp
 refine hK.out _ _ trivial (λhHeld=>?_)
 clear hK K
 try simp only[sq_]
 refine rd_ 5 rfl λK hK=>?_
 go_simp
 refine HT.out.mono ?_
 rintro e w7 ⟨v,rfl,hv7,hb7⟩
 obtain⟨hv,bv,rfl,hoa,hob⟩:=hv7
 obtain⟨ha,hc,rfl⟩:=gk hoa.2
 obtain⟨ba,bc,rfl⟩:=qG hob
 obtain⟨q6,qV,q6',qV',HV,HOA,HOB,HSE⟩:=HAFT w7 (.slice ha r.head.args hc) (.slice ba r.body bc) hb7 hoa hob
 clear hoa hob
 exact aeb):p:=h
theorem afz(h:p:=by
 refine hK.out _ _ trivial (λhHeld=>?_)
 clear hK K
 try simp only[sq_]
 refine rd_ 6 rfl λK hK=>?_
 go_simp
 refine mo_ HS2.out λw9 hw9=>?_
 obtain rfl:=hw9.symm
 refine hK.out _ _ trivial (λhHeld=>?_)
 clear hK K
 try simp only[sq_]
 refine tk_ 7 ?_ rfl ?_ ?_
 rotate_left
 .exact Ys
 simp only[Act.put]
 refine rd_ 8 rfl λK hK=>?_
 exact ad9):p:=h
theorem O_(w:World)(s)(b1:s.size<=4096):Calls prog 12 #[.string s] w λe A=>∃pv a8,e=.returned (.tuple #[.agg #[pv,a8],.bool (fB (bG s)).isSome])/\DH w A pv a8 (fB (bG s))/\Below w w A:=by
 obtain⟨aT,aC⟩:=ex_ ((w.alloc (.cells #[.slice none 0 0,.slice none 0 0] 30)).alloc (.cells #[.slice none 0 0,.slice none 0 0] 30))
 have ak:Hid (aK w (w.heap.size+1) aT [] (.slice none 0 0) [] (.slice none 0 0)):=by
  have aW:Below w w (w.alloc (.cells #[.slice none 0 0,.slice none 0 0] 30)):=bH _ _;have bI:cR (w.alloc (.cells #[.slice none 0 0,.slice none 0 0] 30)) w (.slice none 0 0) (.slice none 0 0):=heap_alloc_new w _;have aX:Below (w.alloc (.cells #[.slice none 0 0,.slice none 0 0] 30)).heap.size (w.alloc (.cells #[.slice none 0 0,.slice none 0 0] 30)) aT:=by rw[<-aC];exact bH _ _
  refine⟨?_,bI.b aX,⟨Q1,rfl,.inl ⟨rfl,rfl⟩⟩,⟨rfl,.inl ⟨rfl,rfl⟩⟩,(λD bF=>absurd bF (List.not_mem_nil)),aW.trans (aX.mono aW.size)⟩;rw[<-aC,<-size_alloc w (.cells #[.slice none 0 0,.slice none 0 0] 30)];exact heap_alloc_new _ _
 go_enter func12,ntmps12;go_wp2_with fail;clear aC;obtain⟨k,aV⟩:=ex_ (w.heap.size+1);have hN1:w.heap.size<k:=Q0;rw[aV] at ak⊢;clear aV;go_loopw [5] (λax wr=>∃(ps:List Prd) (pv:Value) (rvs:List RV) (u:Value) (h:ByteArray),ax=.string h/\Hid (aK w k wr ps pv rvs u)/\Hid (bs s ps rvs h)) (λax _=>yB ax)
 case atStart=>exact⟨[],_,[],_,s,rfl,ak,⟨by unfold mt;rw[cD];rfl,Q1,λq hq=>absurd hq (List.not_mem_nil)⟩⟩
 clear ak;obtain⟨ps,pv,rvs,u,h,rfl,m,C⟩:=hrel;by_cases N:bG h=[]
 .have aD:h.toList.isEmpty=true:=by rw[yM];simp[N]
  have V:Hid (mt (bG s)=(ps,rvs.map RV.r)):=by
   show _=_;rw[C.out.eq,N];cases h.size<;>rfl
  have aU:=C.out.len;have aP:Hid (ps.length<=4096/\rvs.length<=4096):=⟨Q0,Q0⟩;have bg:Hid (dU ps):=λq hq=>by have:=C.out.names q hq;omega
  have J:Hid (kN w wr u (rvs.map RV.r)):=⟨rvs,rfl,aP.out.2,m.out.own,m.out.rules⟩;obtain⟨g,aH⟩:=ex_ (rvs.map RV.r);have a4:rvs.length=g.length:=by rw[<-aH,List.length_map]
  rw[aH] at V J;have d:=tY wr pv u ps g m.out.preds.b J.out.a bg.out;have ap:=bK m.out.preds;have U:=bK m.out.box;have aQ:=bK m.out.out;have ai:=bK m.out.below;obtain⟨a6,a7,rfl⟩:=gk ap.out.2;obtain⟨a9,bb,rfl⟩:=gk m.out.own;rw[a4] at d J U;clear aH m C aU aP a4;obtain⟨Y,c1,Z,aa⟩:=U.out.a;go_wp2_with fail;refine d.mono ?_;clear d;rintro e bd ⟨rfl,B⟩;have aj:=bK (U.out.b B);have au:=bK (aQ.out.b B);have T:=hid_ (ai.out.trans (B.mono ai.out.size));have aq:=hid_ (ap.out.a (fh.c B));have ar:=hid_ (J.out.b (fh.c B) (fh.c B) (fh.c B));clear B U aQ ai ap J Y c1 Z aa;obtain⟨Y,c1,Z,aa⟩:=aj.out.a;by_cases F:bP ps g=0
  .have bk:=bK F;rw[F];have d:=Pa bd _ _ ps g aq.out.b ar.out.a (iz F).a;clear F;go_wp2_with fail;refine d.mono ?_;clear d;rintro e G ⟨rfl,o⟩;have av:=bK (au.out.b o);have bf:=bK (aj.out.b o);have be:=hid_ (T.out.trans (o.mono T.out.size));have bh:=hid_ (aq.out.a (fh.c o));have bj:=hid_ (ar.out.b (fh.c o) (fh.c o) (fh.c o));clear o aj au T aq ar Y c1 Z aa;obtain⟨Y,c1,Z,aa⟩:=bf.out.a;obtain⟨d0,d1,bn,bo⟩:=av.out.a;have HB9:Hid (∀u v,Below w w ((G.setCell w u).setCell ⟨w,1,none⟩ v)):=λu v=>(be.out.setCell (p:=⟨w,0,none⟩) (le_refl _) _).setCell (p:=⟨w,1,none⟩) (le_refl _) _;have P:=nM (ko ps g) s;rw[uX] at P;by_cases I:iw ps g=bG s
   .have HE:Hid (fB (bG s)=some (ps,g)):=by
     show _=_;unfold fB;rw[V.out,if_pos ⟨bk.out,I⟩]
    have aE:((ko ps g).toList==s.toList)=true:=by rw[P];simp[I]
    have br:((ko ps g).toList != s.toList)=false:=by rw[bne,aE];rfl
    have bi:Hid (∀u v,jR w ((G.setCell w u).setCell ⟨w,1,none⟩ v) (.slice a6 ps a7) ps/\kN w ((G.setCell w u).setCell ⟨w,1,none⟩ v) (.slice a9 g bb) g):=λu v=>by
     have ah:∀e,30≠e->fh e w.heap.size G ((G.setCell w u).setCell ⟨w,1,none⟩ v):=λe a0=>(fh.a av a0).b (fh.a (av.out.c u) a0);exact⟨bh.out.a (ah _ QY),bj.out.b (ah _ QY) (ah _ QY) (ah _ QY)⟩
    clear I P;go_wp2_with fail;exact bodyPost_ret (v:=.tuple #[.agg #[.slice a6 ps a7,.slice a9 g bb],.bool true]) XU rfl ⟨_,_,RZ,by rw[HE.out];exact bi _ _,HB9 _ _⟩
   have HE:Hid (fB (bG s)=none):=by
    show _=_;unfold fB;rw[V.out,if_neg (λl=>I l.2)]
   have aE:((ko ps g).toList==s.toList)=false:=by rw[P];simp[I]
   have br:((ko ps g).toList != s.toList)=true:=by rw[bne,aE];rfl
   clear I P;exact Z4
  have HE:Hid (fB (bG s)=none):=by
   show _=_;unfold fB;rw[V.out,if_neg (λl=>F l.1)]
  have bZ:(bP ps g != 0)=true:=by simp[F]
  have b0:(bP ps g==0)=false:=by simp[F]
  obtain⟨d0,d1,bn,bo⟩:=au.out.a;have HB9:Hid (∀u v,Below w w ((bd.setCell w u).setCell ⟨w,1,none⟩ v)):=λu v=>(T.out.setCell (p:=⟨w,0,none⟩) (le_refl _) _).setCell (p:=⟨w,1,none⟩) (le_refl _) _;exact Z4
 have aD:h.toList.isEmpty=false:=by rw[yM];simp[N]
 have aU:=C.out.len;have aF:=je (p:=[10]) Q1 (bG h);have a3:=M8 (p:=[10]) Q1 N;rw[cD] at aF a3;have d:=lm wr h ⟨#[10]⟩ QY QY Q0;rw[show bG (⟨#[10]⟩:ByteArray)=[10] from rfl] at d
 have am:Hid (mt (bG s)=jC (bY [10] (bG h)).2.1.length (oz (ps,rvs.map RV.r) (bY [10] (bG h)).1) (bY [10] (bG h)).2.1):=by
  show _=_;obtain⟨a5,bx⟩:∃a5,h.size=a5+1:=⟨h.size-1,Q0⟩;rw[C.out.eq,bx,jC,if_neg N];exact OD _ _ _ _ Q0 (le_refl _)
 generalize bY [10] (bG h)=D at*;obtain⟨f,X,bO⟩:=D;simp only at aF a3 d am;go_wp2_with fail;refine d.mono ?_;clear d;rintro e G ⟨rfl,o⟩;have aN:=bK (m.out.a o);clear o m;obtain⟨j,ae⟩:=ex_ (bN f);have H:Hid (bG j=f):=by rw[<-ae];exact de _
 have bp:j.size<=4096:=by rw[<-ae,du];omega
 rw[ae];clear ae;have d:=lm G j ⟨#[32]⟩ QY QY Q0;rw[show bG (⟨#[32]⟩:ByteArray)=[32] from rfl,H.out] at d;have a2:=je (p:=[32]) Q1 f;have y:Hid (jB f=((bY [32] f).2.2&&decide ((bY [32] f).1=[112,114,101,100])&&decide ((bY [32] f).2.1≠[])&&decide ((bY [32] f).2.1.head?≠some 58)&&decide ((bY [32] f).2.1.head?≠some 61))):=rfl;have an:Hid (oz (ps,rvs.map RV.r) f=if jB f then(ps++[sL (bY [32] f).2.1],rvs.map RV.r) else(ps,rvs.map RV.r++[nL ps f.dropLast])):=rfl;generalize bY [32] f=D at*;obtain⟨R,x,bl⟩:=D;simp only at a2 d y an;go_wp2_with fail;refine d.mono ?_;clear d;rintro e bL ⟨rfl,aY⟩;have E:=bK (aN.out.a aY);clear aY aN;go_upto_region 7 with fail
 obtain⟨L,aB⟩:=ex_ (bN R);have aS:Hid (bG L=R):=by rw[<-aB];exact de _
 obtain⟨i,af⟩:=ex_ (bN x);have W:Hid (bG i=x):=by rw[<-af];exact de _
 have bq:i.size<=4096:=by rw[<-af,du];have z:=a2.2.1;have bW:=aF.1;omega
 rw[aB,af];clear aB af;go_cut [50] from 17 to 90 (λbm bM=>bm=.bool (jB f)/\bM=bL)
 case first=>
  cases bl with
  |false=>
   have hp:jB f=false:=by rw[y.out];rfl
   exact ZP
  |true=>
   by_cases ag:R=[112,114,101,100]
   .have bt:(L.toList==[112,114,101,100])=true:=by rw[ByteArray.toList_eq,show L.data.toList=R from aS.out,ag];rfl
    by_cases bz:i.size=0
    .have bA:¬(0:Int)<(i.size:Int):=Q0
     have hp:jB f=false:=by
      have z:=cD i;rw[W.out,bz] at z;rw[y.out,List.eq_nil_of_length_eq_zero z];simp
     exact ZP
    have bA:(0:Int)<(i.size:Int):=Q0;have bB:0<i.size:=Q0;have Q:=D5 bB;rw[W.out] at Q;have bC:x≠[]:=by rintro rfl;cases Q
    by_cases ac:i[0]=58
    .have az:(i[0].toNat:Int)=58:=by rw[ac];rfl
     have hp:jB f=false:=by rw[y.out,Q,ac];simp
     exact ZP
    have az:((i[0].toNat:Int)==58)=false:=by
     rw[beq_eq_false_iff_ne];intro e;exact ac (UInt8.toNat_inj.1 (by have:(58:UInt8).toNat=58:=rfl;omega))
    by_cases ad:i[0]=61
    .have aA:(i[0].toNat:Int)=61:=by rw[ad];rfl
     have hp:jB f=false:=by rw[y.out,Q,ad];simp
     exact ZP
    have aA:((i[0].toNat:Int)==61)=false:=by
     rw[beq_eq_false_iff_ne];intro e;exact ad (UInt8.toNat_inj.1 (by have:(61:UInt8).toNat=61:=rfl;omega))
    have bT:=by simpa using az
    have bV:=by simpa using aA
    have bS:((i[0].toNat:Int) != 58)=true:=by simp only[bne,az];rfl
    have bU:((i[0].toNat:Int) != 61)=true:=by simp only[bne,aA];rfl
    have hp:jB f=true:=by rw[y.out,Q,ag];simp[bC,ac,ad]
    exact ZP
   have hp:jB f=false:=by rw[y.out];simp[ag]
   have bt:(L.toList==[112,114,101,100])=false:=by rw[ByteArray.toList_eq,show L.data.toList=R from aS.out];simp[ag]
   exact ZP
 obtain⟨rfl,rfl⟩:=hcut
 have HMEA:Hid (yB (.string (bN X))<yB (.string h)):=by
  show(bN X).size<h.size;rw[du];omega
 cases hp:jB f with
 |true=>
  clear y;have d:=lm wc i ⟨#[32]⟩ QY QY Q0;rw[show bG (⟨#[32]⟩:ByteArray)=[32] from rfl,W.out] at d;have bu:=je (p:=[32]) Q1 x;have aw:Hid (sL x=⟨bN (bY [32] x).1,dE (bY [32] (bY [32] x).2.1).1,dE (bY [32] (bY [32] x).2.1).2.1⟩):=rfl;have HMZ:Hid (x.length<=4096):=by show _<=_;rw[<-W.out,cD];exact bq
  generalize bY [32] x=D at*;obtain⟨aL,aM,bQ⟩:=D;simp only at bu d aw;go_wp2_with fail;refine d.mono ?_;clear d;rintro e w7 ⟨rfl,hb7⟩;have aO:=bK (E.out.a hb7);clear hb7 E;have d:=lm w7 (bN aM) ⟨#[32]⟩ QY QY XV;rw[show bG (⟨#[32]⟩:ByteArray)=[32] from rfl,de] at d;have bw:=je (p:=[32]) Q1 aM;generalize bY [32] aM=D at*;obtain⟨d1,M,bR⟩:=D;simp only at bw d aw;go_wp2_with fail;refine d.mono ?_;clear d;rintro e w8 ⟨rfl,aZ⟩;have al:=bK (aO.out.a aZ);clear aZ aO;go_wp2_with fail
  have aR:Hid (Calls prog 36 #[.string (bN d1)] w8.drew λe A=>e=.returned (.int .i64 (dE d1))/\A=w8.drew):=by
   have l:=oI w8.drew (bN d1) XV;rw[de] at l;exact l
  have HS2:Hid (Calls prog 36 #[.string (bN M)] w8.drew λe A=>e=.returned (.int .i64 (dE M))/\A=w8.drew):=by
   have l:=oI w8.drew (bN M) XV;rw[de] at l;exact l
  have HREL:Hid (bs s (ps++[⟨bN aL,dE d1,dE M⟩]) rvs (bN X)):=by
   refine⟨?_,?_,?_⟩
   .rw[am.out,an.out,hp,if_pos rfl,aw.out,du,de]
   .rw[List.length_append,List.length_singleton,du];omega
   intro q hq;rcases List.mem_append.1 hq with hq|hq
   .exact C.out.names q hq
   rw[List.mem_singleton] at hq;subst hq;show(bN aL).size<=4096;rw[du];have:=HMZ.out;omega
  have hps:ps.length<4096:=Q0;generalize dE d1=n1 at*;generalize dE M=n2 at*;generalize bN aL=NM at*;have HV:Hid (aK w k (w8.drew.alloc (.cells #[.string NM,n1,n2] 51)) ps pv rvs u):=(al.out.a ((Below.refl _ _).drew)).a (bH _ _);have q5:w8.drew.cell? k=some pv:=al.out.box.a.1;have qV:(w8.alloc (.cells #[.string NM,n1,n2] 51)).cell? k=some pv:=HV.out.box.a.1;have HSE:Hid (w.heap.size<=w8.drew.heap.size):=al.out.below.size;obtain⟨i0,hi0,hz0,hz1,hz2⟩:=info_parts pf;refine wp_region_noPanic ?_;refine wp_region_held_drew (S:=(λ_:World=>True)) QX trivial (λhHeld=>?_);refine tk_ 0 ?_ rfl ?_ ?_;rotate_left
  .exact Ys
  simp only[Act.put];refine tk_ 2 ?_ rfl ?_ ?_;rotate_left
  .exact Ys
  simp only[Act.put];refine tk_ 3 ?_ rfl ?_ ?_;rotate_left
  .exact Ys
  simp only[Act.put];refine tk_ 5 ?_ rfl ?_ ?_;rotate_left
  .exact Ys
  simp only[Act.put];refine wpAnyH_ready (rs:=[1,4]) QX Q1 ?_;refine AllReadyH.cons rfl (λK hK=>?_) ?_
  .go_simp;refine hK.out _ _ trivial (λhHeld=>?_);clear hK K;try simp only[sq_]
   refine rd_ 4 rfl λK hK=>?_;go_simp;refine mo_ aR.out λw9 hw9=>?_;obtain rfl:=hw9.symm;exact afz
  refine AllReadyH.cons rfl (λK hK=>?_) AllReadyH.nil;go_simp;refine mo_ aR.out λw9 hw9=>?_;obtain rfl:=hw9.symm;refine hK.out _ _ trivial (λhHeld=>?_);clear hK K;try simp only[sq_]
  refine wpAnyH_ready (rs:=[1,6]) QX Q1 ?_;refine AllReadyH.cons rfl (λK hK=>?_) ?_
  .go_simp;exact afz
  refine AllReadyH.cons rfl (λK hK=>?_) AllReadyH.nil;go_simp;refine mo_ HS2.out λw9 hw9=>?_;obtain rfl:=hw9.symm;refine hK.out _ _ trivial (λhHeld=>?_);clear hK K;try simp only[sq_]
  refine tk_ 7 ?_ rfl ?_ ?_;rotate_left
  .exact Ys
  simp only[Act.put];refine wpAnyH_ready (rs:=[1,8]) QX Q1 ?_;refine AllReadyH.cons rfl (λK hK=>?_) ?_
  .go_simp;refine hK.out _ _ trivial (λhHeld=>?_);clear hK K;try simp only[sq_]
   refine rd_ 8 rfl λK hK=>?_;exact ad9
  refine AllReadyH.cons rfl (λK hK=>?_) AllReadyH.nil;go_simp;refine hK.out _ _ trivial (λhHeld=>?_);clear hK K;try simp only[sq_]
  refine rd_ 1 rfl λK hK=>?_;exact ad9
 |false=>
  clear y;by_cases hz0:j.size=0
  case' pos=>
   have aI:¬(0:Int)<(j.size:Int):=Q0;obtain⟨t,O⟩:∃t,t=j:=⟨_,rfl⟩
   have ao:Hid (bG t=f.dropLast/\t.size<=4096):=by
    rw[O];refine⟨?_,bp⟩;have z:=cD j;rw[H.out,hz0] at z;rw[H.out,List.eq_nil_of_length_eq_zero z];rfl
   go_wp2_with fail;subst O;clear hz0 aI
  case' neg=>
   have aI:(0:Int)<(j.size:Int):=Q0;have bJ:0<j.size:=Q0;have bE:(j.size:Int)-1=((j.size-1:Nat):Int):=Q0;obtain⟨t,O⟩:=ex_ (j.extract 0 (j.size-1))
   have ao:Hid (bG t=f.dropLast/\t.size<=4096):=by
    have z:bG t=f.dropLast:=by rw[<-O,qy,H.out,List.dropLast_eq_take,<-H.out,cD]
    refine⟨z,?_⟩;rw[<-cD,z,List.length_dropLast,<-H.out,cD];omega
   go_wp2_with fail;clear O bE hz0 aI bJ
  all_goals
   obtain⟨r,aG⟩:=ex_ (nL ps f.dropLast)
   have HT:Hid (Calls prog 37 #[pv,.string t] wc.drew λe A=>∃v,e=.returned v/\se wc.drew.heap.size r v A/\Below wc.drew.heap.size wc.drew A):=by
    have l:=PE wc.drew pv ps t (E.out.a ((Below.refl _ _).drew)).preds.b ao.out.2;rw[ao.out.1,aG] at l;exact l
   have HREL:Hid (∀hv bv,bs s ps (rvs++[⟨r,hv,bv⟩]) (bN X)):=by
    intro hv bv;refine⟨?_,?_,C.out.names⟩
    .rw[am.out,an.out,hp,if_neg Q1,aG,du,de];simp
    rw[List.length_append,List.length_singleton,du];omega
   clear aG
   have HAFT:Hid (∀w7 hv bv,Below wc.drew.heap.size wc.drew w7->dY wc.drew.heap.size w7 hv r.head.args->iN wc.drew.heap.size w7 bv r.body->w7.cell? ⟨k,1,none⟩=some u/\(w7.alloc (.cells #[r.head.pred,hv,r.src,r.n,bv] 58)).cell? ⟨k,1,none⟩=some u/\w7.cell? k=some pv/\(w7.alloc (.cells #[r.head.pred,hv,r.src,r.n,bv] 58)).cell? k=some pv/\Hid (aK w k (w7.alloc (.cells #[r.head.pred,hv,r.src,r.n,bv] 58)) ps pv rvs u)/\Hid (dY w (w7.alloc (.cells #[r.head.pred,hv,r.src,r.n,bv] 58)) hv r.head.args)/\Hid (iN w (w7.alloc (.cells #[r.head.pred,hv,r.src,r.n,bv] 58)) bv r.body)/\Hid (w.heap.size<=w7.heap.size+1/\(w7.alloc (.cells #[r.head.pred,hv,r.src,r.n,bv] 58)).heap.size=w7.heap.size+1)):=λw7 hv bv aD bD hob=>by
    have ab:=(E.out.a ((Below.refl _ _).drew)).a aD;have ay:=ab.a (bH w7 (.cells #[r.head.pred,hv,r.src,r.n,bv] 58));have a1:w.heap.size<=wc.drew.heap.size:=E.out.below.size;have aJ:∀e,fh e w.heap.size w7 (w7.alloc (.cells #[r.head.pred,hv,r.src,r.n,bv] 58)):=λe=>fh.c (bH _ _);refine⟨ab.box.a.2.1,ay.box.a.2.1,ab.box.a.1,ay.box.a.1,ay,(bD.b a1).a (aJ _),(hob.b a1).a (aJ _) (aJ _),?_,size_alloc _ _⟩;have:=ab.below.size;omega
   have bX:rvs.length<=4096:=Q0;have q5:wc.drew.cell? ⟨k,1,none⟩=some u:=E.out.box.a.2.1;have q5':wc.drew.cell? k=some pv:=E.out.box.a.1;obtain⟨i0,hi0,hz0,hz1,hz2⟩:=info_parts lh;refine wp_region_noPanic ?_;refine wp_region_held_drew (S:=(λ_:World=>True)) QX trivial (λhHeld=>?_);refine tk_ 0 ?_ rfl ?_ ?_;rotate_left
   .exact Ys
   simp only[Act.put];refine tk_ 2 ?_ rfl ?_ ?_;rotate_left
   .exact Ys
   simp only[Act.put];refine tk_ 4 ?_ rfl ?_ ?_;rotate_left
   .exact Ys
   simp only[Act.put];refine wpAnyH_ready (rs:=[1,3]) QX Q1 ?_;refine AllReadyH.cons rfl (λK hK=>?_) ?_
   .go_simp;refine hK.out _ _ trivial (λhHeld=>?_);clear hK K;try simp only[sq_]
    refine rd_ 3 rfl λK hK=>?_;exact aeC
   refine AllReadyH.cons rfl (λK hK=>?_) AllReadyH.nil;go_simp;refine hK.out _ _ trivial (λhHeld=>?_);clear hK K;try simp only[sq_]
   refine wpAnyH_ready (rs:=[1,5]) QX Q1 ?_;refine AllReadyH.cons rfl (λK hK=>?_) ?_
   .exact aeC
   refine AllReadyH.cons rfl (λK hK=>?_) AllReadyH.nil;go_simp;refine HT.out.mono ?_;rintro e w7 ⟨v,rfl,hv7,hb7⟩;obtain⟨hv,bv,rfl,hoa,hob⟩:=hv7;obtain⟨ha,hc,rfl⟩:=gk hoa.2;obtain⟨ba,bc,rfl⟩:=qG hob;obtain⟨q6,qV,q6',qV',HV,HOA,HOB,HSE⟩:=HAFT w7 (.slice ha r.head.args hc) (.slice ba r.body bc) hb7 hoa hob;clear hoa hob;refine hK.out _ _ trivial (λhHeld=>?_);clear hK K;try simp only[sq_]
   refine wpAnyH_ready (rs:=[1,6]) QX Q1 ?_;refine AllReadyH.cons rfl (λK hK=>?_) ?_
   .go_simp;exact aeb
   refine AllReadyH.cons rfl (λK hK=>?_) AllReadyH.nil;go_simp;refine hK.out _ _ trivial (λhHeld=>?_);clear hK K;try simp only[sq_]
   refine rd_ 1 rfl λK hK=>?_;go_simp;refine hK.out _ _ trivial (λhHeld=>?_);clear hK K;try simp only[sq_]
   refine rd_ 7 rfl λK hK=>?_;refine step_append_lies _ SS _ _ 28 SS w 58 i0 (.agg #[.int .i64 0,.slice none 0 0,.int .i64 0,.int .i64 0,.slice none 0 0]) 5 72 underlying28 hi0 hz0 hz1 hz2 SS Q0 u rvs (ci rvs) SS HV.out.own ⟨w7,0,none⟩ 1 1 [.int .i64 r.head.pred,.slice ha r.head.args hc,.int .i64 r.src,.int .i64 r.n,.slice ba r.body bc] SS SS oE XH Q0 Tk Q0 Tl (w7.heap.size+1) (size_alloc _ _) ?_;intro g9 cap9 W9 hown9 hgrow9 hat9 hlt9;obtain⟨n1,n2,HN9⟩:=vu hN1 HV HOA HOB Tn To;clear hat9 hlt9 hown9 hgrow9;refine hK.out _ _ trivial (λhHeld=>?_);clear hK K;try simp only[Act.put,setIfInBounds_toArray]
   refine tk_ 8 ?_ rfl ?_ ?_;rotate_left
   .exact Ys
   simp only[Act.put];refine rd_ 9 rfl λK hK=>?_;go_simp;refine hK.out _ _ trivial (λhHeld=>?_);clear hK K;try simp only[sq_]
   refine wpAnyH_done QX ?_ _;refine NoPanic.normal ?_;clear n1 n2 q5 q5' q6 qV q6' qV';go_wp2_with fail;go_roundw
   case rel=>exact⟨_,_,_,_,_,rfl,HN9,HREL _ _⟩
   exact HMEA.out
