import Derived.Test.YtlfccloaoopadagGreatDoorG49
import Derived.Test.YtlfccloaoopadagGreatDoorG51
open Go.Proofs.Tryz
set_option maxRecDepth 100000
set_option maxHeartbeats 0
open ByteArray (size_append size_extract)
open List (append_assoc length_map map_id map_map mem_singleton setIfInBounds_toArray set_cons_succ set_cons_zero)
open Nat (le_refl zero_le)
open Go.Lib (countB decDigits splitB)
namespace Go.Proofs.YtlfccloaoopadagGreatDoor
open Go.ChangeShapes Go.WideShapes Go.ChangeAt Go.RowKit
variable{p:Prop}
def eZ(s t:List UInt8):Int:=if 4096<s.length then 2 else match fB s with
 |none=>1
 |some _=>if 4096<t.length\/40<t.count 10 then 2 else if t=[]\/t.getLast?=some 10 then 0 else 1
def kR(s t:List UInt8):List UInt8:=if eZ s t=0 then gU ((fB s).getD ([],[])) [] t else[]
theorem mY{s a:List UInt8}{e:Int}(b:eZ s a=e)(c:e≠0):kR s a=[]:=by
 unfold kR;rw[if_neg (by rw[b];exact c)]
theorem M6{t:List UInt8}{j:Nat}(a:j<t.length):(t.take (j+1)).count 10=(t.take j).count 10+if t[j]=10 then 1 else 0:=by
 rw[List.take_add_one,List.getElem?_eq_getElem a,Option.toList_some,List.count_append,List.count_cons,List.count_nil];simp
theorem M7(b:List UInt8)(c:Nat):(b.take c).count 10<=b.count 10:=by
 have:=List.count_append (a:=(10:UInt8)) (l₁:=b.take c) (l₂:=b.drop c);rw[List.take_append_drop] at this;omega
structure a_ (w:World) (B:Nat) (x0:dQ) (t:List UInt8) (j fr:Nat) (O:ByteArray) (x:dQ) (pv rv:Value) (wr:World):Prop where
 le:fr<=j
 eq:gU x0 [] t=bG O++gU x ((t.drop fr).take (j-fr)) (t.drop j)
 ok:bP x.1 x.2=0
 box:cR wr B pv rv
 hp:bR wr pv x.1
 hr:ck wr rv x.2
 cap:kM rv
 below:Below w w wr
 b:w.heap.size<=B
theorem XX(h:p:=by simp[results,results5,go_sem,bN]):p:=h
theorem XY(h:p:=by rw[mY HE (by decide),HE.out]):p:=h
theorem XZ(h:p:=by have:(10:UInt8).toNat=10:=rfl;omega):p:=h
theorem aao(h:p:=by
 clear HPE HPT HCK
 go_wp2_with fail
 exact bodyPost_ret (v:=.tuple #[.string (bN []),.int .i64 2]) XX rfl ⟨XY,HIN.out.below⟩):p:=h
theorem abk(h:p:=by
 rw[beq_eq_false_iff_ne]
 intro e
 exact h10 (UInt8.toNat_inj.1 XZ)):p:=h
theorem OU(w:World)(s d:ByteArray)(ba:s.size<=9223372036854775807)(bc:d.size<=9223372036854775807):Calls prog 5 #[.string s,.string d] w λe aV=>e=.returned (.tuple #[.string (bN (kR (bG s) (bG d))),.int .i64 (eZ (bG s) (bG d))])/\Below w w aV:=by
 by_cases ab:4096<s.size
 .have HE:Hid (eZ (bG s) (bG d)=2):=by show _=_;unfold eZ;rw[cD,if_pos ab]
  have aQ:(4096:Int)<(s.size:Int):=Q0;go_enter func5,ntmps5;go_wp2_with fail;exact bodyPost_ret (v:=.tuple #[.string (bN []),.int .i64 2]) XX rfl ⟨XY,Below.refl _ _⟩
 have aQ:¬(4096:Int)<(s.size:Int):=Q0;have H:=O_ w s Q0;have HPE:Hid (eZ (bG s) (bG d)=match fB (bG s) with|none=>1|some _=>if 4096<(bG d).length\/40<(bG d).count 10 then 2 else if bG d=[]\/(bG d).getLast?=some 10 then 0 else 1):=by show _=_;unfold eZ;rw[cD,if_neg ab]
 have HPT:Hid (kR (bG s) (bG d)=if eZ (bG s) (bG d)=0 then gU ((fB (bG s)).getD ([],[])) [] (bG d) else[]):=rfl;have X:=hid_ λi (aS:fB (bG s)=some i)=>(sN.1 (show fB (bG s)=some (i.1,i.2) from aS)).1;clear ab;cases M:fB (bG s) with
 |none=>
  rw[M] at H HPE;have HE:Hid (eZ (bG s) (bG d)=1):=HPE.out;clear HPE HPT X M;go_enter func5,ntmps5;go_wp2_with fail;refine H.mono ?_;rintro e G ⟨aq,ae,rfl,⟨rfl,rfl⟩,t⟩;have ax:Hid (Below w w (G.alloc (.cells #[.slice none 0 0,.slice none 0 0] 30))):=t.trans ((bH _ _).mono t.size);clear t H;go_wp2_with fail;exact bodyPost_ret (v:=.tuple #[.string (bN []),.int .i64 1]) XX rfl ⟨XY,ax.out⟩
 |some n=>
  have ao:=X n M;rw[M] at H HPE HPT;simp only at HPE;rw[show(some n).getD ([],[])=n from rfl] at HPT;clear X M;go_enter func5,ntmps5;go_wp2_with fail;refine H.mono ?_;rintro e G ⟨aq,ae,rfl,⟨ap,ad⟩,t⟩;clear H
  have L:kM ae:=by
   obtain⟨bg,_,_,aG,_⟩:=id ad;exact rV aG
  have D:=ap.b;have E:=ad.a;obtain⟨y,z,rfl,_⟩:=id D;obtain⟨A,B,rfl,_⟩:=id E;have HIN:Hid (a_ w G.heap.size n (bG d) 0 0 ⟨#[]⟩ n (.slice y n.1.length z) (.slice A n.2.length B) (G.alloc (.cells #[.slice y n.1.length z,.slice A n.2.length B] 30))):=⟨le_refl _,rfl,ao,heap_alloc_new G _,bR.a (bH _ _) D,ck.a (bH _ _) E,L,t.trans ((bH _ _).mono t.size),t.size⟩;clear ap ad D E L t ao;go_wp2_with fail;generalize G.alloc (.cells #[.slice y n.1.length z,.slice A n.2.length B] 30)=aX at*;generalize G.heap.size=x at*;go_loop [8,9] (λay F=>∃(g o:Nat),g<=d.size/\F=.int .i64 g/\ay=.int .i64 o/\o<=41/\Hid (o=((bG d).take g).count 10)) (λ_ F=>d.size-(intOf F).toNat)
  case atStart=>exact⟨0,0,zero_le _,rfl,rfl,Q0,rfl⟩
  obtain⟨g,o,aM,rfl,rfl,a6,O⟩:=hrel;by_cases al:g<d.size/\o<=40
  .obtain⟨hlt,aP⟩:=al;have aO:(g:Int)<(d.size:Int):=Q0;have aN:(0:Int)<=(g:Int):=Q0;have a7:(o:Int)<=40:=Q0;have J:=bK (M6 (t:=bG d) (j:=g) SY);rw[lP hlt,<-O.out] at J;by_cases h10:d[g]=10
   .rw[if_pos h10] at J;have Y:(d[g].toNat:Int)=10:=by rw[h10];rfl
    go_wp2_with fail;go_round
    case rel=>exact⟨g+1,o+1,Q0,Rv,Rv,Q0,J.out.symm⟩
    exact S6
   rw[if_neg h10] at J
   have Y:((d[g].toNat:Int)==10)=false:=by
    exact abk
   go_wp2_with fail;go_round
   case rel=>exact⟨g+1,o,Q0,Rv,rfl,Q0,J.out.symm⟩
   exact S6
  have HCK:Hid (40<o↔40<(bG d).count 10):=by
   have aF:=M7 (bG d) g;rw[<-O.out] at aF;refine⟨λh=>Q0,λh=>?_⟩;by_cases hlt:g<d.size
   .omega
   rw[O.out,List.take_of_length_le SZ];exact h
  have am:¬((g:Int)<(d.size:Int)/\(o:Int)<=40):=Q0;have ag:=bK am;clear O;clear al am;by_cases hlt:(g:Int)<(d.size:Int)
  case' pos=>
   have aP:¬(o:Int)<=40:=λh=>ag ⟨hlt,h⟩
  all_goals
   clear ag;by_cases aY:(4096:Int)<(d.size:Int)
   case pos=>
    have HE:Hid (eZ (bG s) (bG d)=2):=by
     show _=_;rw[HPE.out,if_pos];exact .inl SZ
    exact aao
   by_cases aH:(40:Int)<(o:Int)
   case pos=>
    have HE:Hid (eZ (bG s) (bG d)=2):=by
     show _=_;rw[HPE.out,if_pos];exact .inr (HCK.out.1 Q0)
    exact aao
   have C:Hid (eZ (bG s) (bG d)=if bG d=[]\/(bG d).getLast?=some 10 then 0 else 1):=by
    show _=_;rw[HPE.out,if_neg];rw[cD];rintro(h|h)
    .omega
    have:=HCK.out.2 h;omega
   clear HPE HCK;by_cases aI:(0:Int)<(d.size:Int)
   case' pos=>
    have aZ:0<d.size:=Q0;have bb:(d.size:Int)-1=((d.size-1:Nat):Int):=Q0;have an:d.size-1<d.size:=Q0;have a8:((d.size-1:Nat):Int)<(d.size:Int):=Q0
    have ac:(bG d).getLast?=some d[d.size-1]:=by
     rw[List.getLast?_eq_getElem?,cD,List.getElem?_eq_getElem (by rw[cD];exact an),lP an]
    rw[ac] at C;have aR:bG d≠[]:=by intro e;rw[e] at ac;cases ac
    by_cases N:d[d.size-1]=10
    case neg=>
     have aJ:((d[d.size-1].toNat:Int) != 10)=true:=by
      simp only[bne_iff_ne,ne_eq];intro e;exact N (UInt8.toNat_inj.1 XZ)
     have HE:Hid (eZ (bG s) (bG d)=1):=by
      show _=_;rw[C.out,if_neg];rintro(h|h)
      .exact aR h
      exact N (Option.some.inj h)
     clear C HPT;go_wp2_with fail;exact bodyPost_ret (v:=.tuple #[.string (bN []),.int .i64 1]) XX rfl ⟨XY,HIN.out.below⟩
    have aJ:((d[d.size-1].toNat:Int) != 10)=false:=by rw[N];rfl
    have HE:Hid (eZ (bG s) (bG d)=0):=by
     show _=_;rw[C.out,if_pos];exact .inr (congrArg some N)
    clear C;go_wp2_with fail
   case' neg=>
    have HE:Hid (eZ (bG s) (bG d)=0):=by
     show _=_;rw[C.out,if_pos];exact .inl (List.eq_nil_of_length_eq_zero SZ)
    clear C;go_wp2_with fail
   all_goals
    clear aI aH hlt;go_loopw [10,11,12] (λP aC F wr=>∃(g l:Nat) (r:ByteArray) (i:dQ) (y:Option Addr) (z:Nat) (A:Option Addr) (B:Nat),g<=d.size/\F=.int .i64 g/\aC=.int .i64 l/\P=.string r/\r.size<=g*4001/\Hid (a_ w x n (bG d) g l r i (.slice y i.1.length z) (.slice A i.2.length B) wr)) (λ_ _ F _=>d.size-(intOf F).toNat)
    case atStart=>exact⟨0,0,_,_,_,_,_,_,zero_le _,rfl,rfl,rfl,le_refl _,HIN⟩
    clear HIN;obtain⟨g,l,r,i,y,z,A,B,aM,rfl,rfl,rfl,a1,j⟩:=hrel;by_cases hlt:g<d.size
    .have aO:(g:Int)<(d.size:Int):=Q0;have aN:(0:Int)<=(g:Int):=Q0;by_cases h10:d[g]=10
     .have Y:(d[g].toNat:Int)=10:=by rw[h10];rfl
      have a4:=j.out.le;have a3:(l:Int)<=(g:Int):=Q0;have a2:(0:Int)<=(l:Int):=Q0;have a5:(g:Int)<=(d.size:Int):=Q0;obtain⟨k,ak⟩:=ex_ (d.extract l g)
      have ah:Hid (bG k=((bG d).drop l).take (g-l)):=by
       show _=_;rw[<-ak];unfold bG;simp
      have aK:k.size<=4096:=by
       rw[<-cD,ah.out,List.length_take,List.length_drop,cD];omega
      have af:=NP wr.drew _ _ i.1 i.2 k ⟨bR.a (Below.refl _ _).drew j.out.hp,ck.a (Below.refl _ _).drew j.out.hr,j.out.cap,j.out.ok,aK⟩;have V:=bK (Mz j.out.ok (bG k))
      have ai:Hid (gU n [] (bG d)=bG r++((cq i (bG k)).2++[10]++gU (cq i (bG k)).1 [] ((bG d).drop (g+1)))):=by
       show _=_
       have aa:(bG d).drop g=10::(bG d).drop (g+1):=by
        rw[List.drop_eq_getElem_cons SY,lP hlt,h10]
       rw[j.out.eq,aa,gU,if_pos rfl,<-ah.out]
      obtain⟨ar,au,aA,aB⟩:=j.out.box.a;have aT:wr.drew.cell? x=some (.slice y i.1.length z):=ar;have aU:wr.drew.cell? ⟨x,1,none⟩=some (.slice A i.2.length B):=au;clear ar au aA aB;go_wp2_with fail;refine wp_region_noPanic ?_;refine wp_region_held_drew (S:=λ_=>True) QX trivial (λI=>?_);refine tk_ 1 ?_ rfl ?_ ?_;rotate_left
      .exact Ys
      simp only[Act.put];refine tk_ 2 ?_ rfl ?_ ?_;rotate_left
      .exact Ys
      simp only[Act.put];refine tk_ 3 ?_ rfl ?_ ?_;rotate_left
      .exact Ys
      simp only[Act.put];refine tk_ 4 ?_ rfl ?_ ?_;rotate_left
      .exact Ys
      simp only[Act.put];clear ak;refine rd_ 0 rfl λq m=>?_;go_simp;refine m.out _ _ trivial (λI=>?_);clear m q;try simp only[sq_]
      refine rd_ 5 rfl λq m=>?_;go_simp;refine af.mono ?_;clear af;rintro e av ⟨aq,ae,rfl,D,E,L,t⟩;obtain⟨Q,R,rfl,_⟩:=id D;obtain⟨T,U,rfl,_⟩:=id E;have Z:Below wr wr av:=((Below.refl _ _).drew).trans t;have K:=bK (j.out.box.b Z)
      have W:Hid (a_ w x n (bG d) (g+1) (g+1) (r++bN (cq i (bG k)).2++⟨#[10]⟩) (cq i (bG k)).1 (.slice Q (cq i (bG k)).1.1.length R) (.slice T (cq i (bG k)).1.2.length U) ((av.setCell x (.slice Q (cq i (bG k)).1.1.length R)).setCell ⟨x,1,none⟩ (.slice T (cq i (bG k)).1.2.length U))):=by
       have P:=(mX (k:=0) (u:=.slice Q (cq i (bG k)).1.1.length R) K.out).a (mX (k:=1) (u:=.slice T (cq i (bG k)).1.2.length U) (K.out.c _));refine⟨le_refl _,?_,V.out.1,(K.out.c _).f _,qI P D,qK P E,L,((j.out.below.trans (Z.mono j.out.below.size)).setCell (p:=⟨x,0,none⟩) j.out.b _).setCell (p:=⟨x,1,none⟩) j.out.b _,j.out.b⟩;rw[ai.out,d_,d_,de,Nat.sub_self,List.take_zero,show bG (⟨#[10]⟩:ByteArray)=[10] from rfl];exact ad6
      have bd:(bN (cq i (bG k)).2).size<=4000:=by rw[du];exact V.out.2
      have be:¬9223372036854775807<r.size+(bN (cq i (bG k)).2).size:=Q0;have bf:¬9223372036854775807<r.size+(bN (cq i (bG k)).2).size+1:=Q0;obtain⟨az,aj,aD,aE⟩:=K.out.a;clear t Z D E L j K ai aT aU;generalize(cq i (bG k)).1=aW at*;refine m.out _ _ trivial (λI=>?_);clear m q;try simp only[sq_]
      refine rd_ 6 rfl λq m=>?_;go_simp;refine m.out _ _ trivial (λI=>?_);clear m q;try simp only[sq_]
      refine tk_ 8 ?_ rfl ?_ ?_;rotate_left
      .exact Ys
      simp only[Act.put];refine rd_ 7 rfl λq m=>?_;go_simp;refine m.out _ _ trivial (λI=>?_);clear m q;try simp only[sq_]
      refine rd_ 9 rfl λq m=>?_;go_simp;refine m.out _ _ trivial (λI=>?_);clear m q;try simp only[sq_]
      refine rd_ 10 rfl λq m=>?_;go_simp;refine m.out _ _ trivial (λI=>?_);clear m q;try simp only[sq_]
      refine wpAnyH_done QX ?_ _;refine NoPanic.normal ?_;clear az aj;clear aD aE;go_wp2_with fail;go_roundw
      case rel=>
       refine⟨g+1,g+1,_,aW,Q,R,T,U,Q0,Rv,Rv,rfl,?_,?_⟩
       .simp only[size_append,du];have aj:(⟨#[10]⟩:ByteArray).size=1:=rfl;have a0:(cq (i.1,i.2) (bG k)).2.length<=4000:=V.out.2;omega
       exact W.out
      exact S6
     have Y:((d[g].toNat:Int)==10)=false:=by
      exact abk
     have W:Hid (a_ w x n (bG d) (g+1) l r i (.slice y i.1.length z) (.slice A i.2.length B) wr):=by
      have a9:=j.out.le;refine⟨Q0,?_,j.out.ok,j.out.box,j.out.hp,j.out.hr,j.out.cap,j.out.below,j.out.b⟩
      have aa:(bG d).drop g=d[g]::(bG d).drop (g+1):=by
       rw[List.drop_eq_getElem_cons SY,lP hlt]
      have aL:((bG d).drop l).take (g+1-l)=((bG d).drop l).take (g-l)++[d[g]]:=by
       rw[show g+1-l=(g-l)+1 by omega,List.take_add_one,List.getElem?_drop,show l+(g-l)=g by omega,List.getElem?_eq_getElem SY,lP hlt];rfl
      rw[j.out.eq,aa,gU,if_neg h10,aL]
     clear j;go_wp2_with fail;go_roundw
     case rel=>exact⟨g+1,l,r,i,y,z,A,B,Q0,Rv,rfl,rfl,Q0,W⟩
     exact S6
    obtain rfl:g=d.size:=Q0
    have aw:Hid (r=bN (kR (bG s) (bG d))):=by
     show _=_;have:=j.out.eq;rw[<-cD,List.drop_length,gU,List.append_nil] at this;rw[HPT.out,if_pos HE.out,this,gr]
    go_wp2_with fail;rw[aw.out];exact bodyPost_ret (v:=.tuple #[.string (bN (kR (bG s) (bG d))),.int .i64 0]) (by simp[results,results5,go_sem]) rfl ⟨Xc,j.out.below⟩
def vi:List (List UInt8)->List UInt8
 |[]=>[]
 |l::ls=>l++10::vi ls
theorem EW:∀(a:List (List UInt8)) (b:dQ),(∀l∈a,∀f∈l,f≠10)->gU b [] (vi a)=iP b a
 |[],_,_=>rfl
 |l::a,b,c=>by
  rw[vi,yH (c l Q1),iP,List.nil_append,EW a _ λl d=>c l (List.mem_cons_of_mem _ d)]
abbrev di:dQ:=(b9,ca)
abbrev lj:dQ:=(b9,d7 ca 3)
theorem u_{k:Nat}(a:k<100):decDigits k=bG (b_ (k:Int)):=Ec ⟨k,a⟩
theorem yo{e:Int}{k:Nat}(b:e=(k:Int))(a:k<100):eY e=[101,114,114,111,114,32]++bG (b_ (k:Int)):=by rw[eY,b,Int.toNat_natCast,u_ a]
theorem yA{l:List Nat}(a:∀n∈l,n<100):fp l=[32].intercalate (l.map λn:Nat=>bG (b_ (n:Int))):=by
 unfold fp;congr 1;exact List.map_congr_left λn b=>u_ (a n b)
theorem sF:dg b9 ca=js:=by
 have:=A5.1;unfold iV at this;rwa[if_neg X6] at this
theorem ES:bP b9 (d7 ca 3)=0:=ym lH 3
def pj:List Fct:=[⟨0,0,1,0⟩,⟨0,1,2,0⟩,⟨0,2,0,0⟩]
def vj:List Fct:=pj++[⟨1,0,1,1⟩,⟨1,1,2,1⟩,⟨1,2,0,1⟩]
def vk:List Fct:=pj++[⟨1,0,1,1⟩,⟨1,0,2,2⟩,⟨1,1,0,2⟩,⟨1,1,2,1⟩,⟨1,2,0,1⟩,⟨1,2,1,2⟩]
def qB:List Fct:=pj++[⟨1,0,0,3⟩,⟨1,0,1,1⟩,⟨1,0,2,2⟩,⟨1,1,0,2⟩,⟨1,1,1,3⟩,⟨1,1,2,1⟩,⟨1,2,0,1⟩,⟨1,2,1,2⟩,⟨1,2,2,3⟩]
theorem mV{f:List Fct}(h:bW b9 f=0):bS b9 (d7 ca 3) f=0:=by rw[bS,if_neg (by rw[ES];simp),h]
set_option maxRecDepth 100000
theorem pt:bM b9 (d7 ca 3)=[0,0,1]:=QX
theorem aa6(h:p:=by
 rw[bV,cM,mV QY,pt]
 exact⟨QX,QX⟩):p:=h
theorem DV:bV b9 (d7 ca 3) [] 0=pj/\cM b9 (d7 ca 3) [] 0=true:=by
 exact aa6
theorem DW:bV b9 (d7 ca 3) pj 0=vj/\cM b9 (d7 ca 3) pj 0=true:=by
 exact aa6
theorem DX:bV b9 (d7 ca 3) vj 0=vk/\cM b9 (d7 ca 3) vj 0=true:=by
 exact aa6
theorem DY:bV b9 (d7 ca 3) vk 0=qB/\cM b9 (d7 ca 3) vk 0=true:=by
 exact aa6
theorem ML:cM b9 (d7 ca 3) qB 0=false:=by
 rw[cM,mV QY,pt];kernel_rfl
theorem MM:cM b9 (d7 ca 3) qB 1=false:=by
 rw[cM,mV QY,pt];kernel_rfl
theorem OL:dg b9 (d7 ca 3)=qB:=by
 have a:=me (mV (f:=[]) QY) DV.2;have b:=me (mV (f:=pj) QY) DW.2;have c:=me (mV (f:=vj) QY) DX.2;have d:=me (mV (f:=vk) QY) DY.2;have g:=oV ML;have h:=oV MM;rw[DV.1] at a;rw[DW.1] at b;rw[DX.1] at c;rw[DY.1] at d;have e:dw b9 (d7 ca 3) 0 []=qB:=by rw[a.1,b.1,c.1,d.1,g.1]
 unfold dg;rw[pt];show dw b9 (d7 ca 3) 1 (dw b9 (d7 ca 3) 0 [])=qB;rw[e,h.1]
theorem ad3(h:p:=by exact congrArg (Prod.mk di) QX):p:=h
theorem Pe:cq di [109,111,100,101,108]=(di,[49,55]):=by
 unfold cq;rw[if_pos rfl,sF,u_ QY];exact ad3
theorem X9(h:p:=by unfold cq;rw[if_neg (by decide),if_neg (by decide),if_neg (by decide),if_neg (by decide)];rfl):p:=h
theorem Pk:cq di [97,115,107,32,102,97,114,40,51,44,65,41]=(di,[102,97,114,40,51,44,48,41,32,61,32,49,59,32,102,97,114,40,51,44,49,41,32,61,32,50,59,32,102,97,114,40,51,44,50,41,32,61,32,51]):=by
 have e:cq di [97,115,107,32,102,97,114,40,51,44,65,41]=(di,gT di [102,97,114,40,51,44,65,41]):=X9;rw[e,gT,show f5 di.1 [102,97,114,40,51,44,65,41]=some ⟨1,[⟨false,3⟩,⟨true,0⟩]⟩ by kernel_rfl];show(di,jy b9 (dJ (dg b9 ca) ⟨1,[⟨false,3⟩,⟨true,0⟩]⟩))=_;rw[sF];exact ad3
theorem Pm:cq di [97,115,107,32,108,111,110,101,40,65,41]=(di,[108,111,110,101,40,51,41]):=by
 have e:cq di [97,115,107,32,108,111,110,101,40,65,41]=(di,gT di [108,111,110,101,40,65,41]):=X9;rw[e,gT,show f5 di.1 [108,111,110,101,40,65,41]=some ⟨2,[⟨true,0⟩]⟩ by kernel_rfl];show(di,jy b9 (dJ (dg b9 ca) ⟨2,[⟨true,0⟩]⟩))=_;rw[sF];exact ad3
theorem Pn:cq di [97,115,107,32,102,97,114,40,65,44,65,41]=(di,[102,97,114,40,48,44,48,41,32,61,32,51,59,32,102,97,114,40,49,44,49,41,32,61,32,51,59,32,102,97,114,40,50,44,50,41,32,61,32,51]):=by
 have e:cq di [97,115,107,32,102,97,114,40,65,44,65,41]=(di,gT di [102,97,114,40,65,44,65,41]):=X9;rw[e,gT,show f5 di.1 [102,97,114,40,65,44,65,41]=some ⟨1,[⟨true,0⟩,⟨true,0⟩]⟩ by kernel_rfl];show(di,jy b9 (dJ (dg b9 ca) ⟨1,[⟨true,0⟩,⟨true,0⟩]⟩))=_;rw[sF];exact ad3
theorem Po:cq di [97,115,107,32,102,97,114,40,52,44,65,41]=(di,[110,111,110,101]):=by
 have e:cq di [97,115,107,32,102,97,114,40,52,44,65,41]=(di,gT di [102,97,114,40,52,44,65,41]):=X9;rw[e,gT,show f5 di.1 [102,97,114,40,52,44,65,41]=some ⟨1,[⟨false,4⟩,⟨true,0⟩]⟩ by kernel_rfl];show(di,jy b9 (dJ (dg b9 ca) ⟨1,[⟨false,4⟩,⟨true,0⟩]⟩))=_;rw[sF];exact ad3
theorem Pp:cq di [97,115,107,32,102,97,114,40,65,41]=(di,[101,114,114,111,114,32,49]):=by
 have e:cq di [97,115,107,32,102,97,114,40,65,41]=(di,gT di [102,97,114,40,65,41]):=X9;rw[e,gT,show f5 di.1 [102,97,114,40,65,41]=none by kernel_rfl];show(di,eY 1)=_;rw[yo (e:=1) (k:=1) rfl QY];rfl
theorem Pq:cq di [115,116,114,97,116,97]=(di,[48,32,48,32,49]):=by
 unfold cq;rw[if_neg QY,if_pos rfl,i8,yA QY];exact ad3
theorem PD:iW b9 ca=[4,1]:=by
 have:=A5.2;unfold mK at this;rwa[if_neg X6] at this
theorem Pr:cq di [114,111,117,110,100,115]=(di,[52,32,49]):=by
 unfold cq;rw[if_neg QY,if_neg QY,if_pos rfl,PD,yA QY];exact ad3
theorem N3:dA b9 ca (cC (bM b9 ca))=21:=by
 have:=Ly;unfold mO at this;rwa[if_neg X6] at this
theorem P4:lX di=[17,21]:=by
 unfold lX;rw[QN,N3];rfl
theorem Ps:cq di [115,116,101,112,115]=(di,[49,55,32,50,49]):=by
 unfold cq;rw[if_neg QY,if_neg QY,if_neg QY,if_pos rfl,P4,yA QY];exact ad3
theorem Qi:eu b9 ca 3=0:=by
 rw[eu,if_neg X6];rfl
theorem Pf:cq di [100,114,111,112,32,51]=(lj,[111,107]):=by
 have e:cq di [100,114,111,112,32,51]=jT di [51]:=X9;rw[e,jT,show kn [51]=some 3 by kernel_rfl];show(if eu b9 ca 3=0 then _ else _)=_;rw[if_pos Qi];rfl
theorem Ph:cq lj [109,111,100,101,108]=(lj,[49,50]):=by
 unfold cq;rw[if_pos rfl,OL,u_ QY];exact congrArg (Prod.mk lj) QX
theorem Qj:eu b9 (d7 ca 3) 9=7:=by
 rw[eu,if_neg (by rw[ES];simp)];rfl
theorem Pi:cq lj [100,114,111,112,32,57]=(lj,[101,114,114,111,114,32,55]):=by
 have e:cq lj [100,114,111,112,32,57]=jT lj [57]:=X9;rw[e,jT,show kn [57]=some 9 by kernel_rfl];show(if eu b9 (d7 ca 3) 9=0 then _ else(lj,eY (eu b9 (d7 ca 3) 9)))=_;rw[Qj,if_neg QY,yo (e:=7) (k:=7) rfl QY];rfl
theorem Pj:cq lj [120]=(lj,[101,114,114,111,114,32,49]):=by
 have e:cq lj [120]=(lj,eY 1):=X9;rw[e,yo (e:=1) (k:=1) rfl QY];rfl
def oJ:List UInt8:=[109,111,100,101,108,10,97,115,107,32,102,97,114,40,51,44,65,41,10,97,115,107,32,108,111,110,101,40,65,41,10,97,115,107,32,102,97,114,40,65,44,65,41,10,97,115,107,32,102,97,114,40,52,44,65,41,10,97,115,107,32,102,97,114,40,65,41,10,115,116,114,97,116,97,10,114,111,117,110,100,115,10,115,116,101,112,115,10,100,114,111,112,32,51,10,109,111,100,101,108,10,100,114,111,112,32,57,10,120,10]
def vC:List UInt8:=[49,55,10,102,97,114,40,51,44,48,41,32,61,32,49,59,32,102,97,114,40,51,44,49,41,32,61,32,50,59,32,102,97,114,40,51,44,50,41,32,61,32,51,10,108,111,110,101,40,51,41,10,102,97,114,40,48,44,48,41,32,61,32,51,59,32,102,97,114,40,49,44,49,41,32,61,32,51,59,32,102,97,114,40,50,44,50,41,32,61,32,51,10,110,111,110,101,10,101,114,114,111,114,32,49,10,48,32,48,32,49,10,52,32,49,10,49,55,32,50,49,10,111,107,10,49,50,10,101,114,114,111,114,32,55,10,101,114,114,111,114,32,49,10]
theorem PU:gU di [] oJ=vC:=by
 rw[show oJ=vi [[109,111,100,101,108],[97,115,107,32,102,97,114,40,51,44,65,41],[97,115,107,32,108,111,110,101,40,65,41],[97,115,107,32,102,97,114,40,65,44,65,41],[97,115,107,32,102,97,114,40,52,44,65,41],[97,115,107,32,102,97,114,40,65,41],[115,116,114,97,116,97],[114,111,117,110,100,115],[115,116,101,112,115],[100,114,111,112,32,51],[109,111,100,101,108],[100,114,111,112,32,57],[120]] from rfl,EW _ _ QY];simp only[iP,Pe,Pk,Pm,Pn,Po,Pp,Pq,Pr,Ps,Pf,Ph,Pi,Pj];rfl
theorem DZ:eZ (iw b9 ca) oJ=0/\kR (iw b9 ca) oJ=vC:=by
 have a:fB (iw b9 ca)=some di:=sN.2 ⟨lH,rfl⟩;have b:(iw b9 ca).length=185:=by rw[<-uX,cD];kernel_rfl
 have e:eZ (iw b9 ca) oJ=0:=by
  unfold eZ;rw[b,if_neg Q0,a];show(if _ then _ else _)=_;rw[if_neg QY,if_pos QY]
 refine⟨e,?_⟩;unfold kR;rw[if_pos e,a];exact PU
theorem Pv{s:List UInt8}(a:¬4096<s.length):lq s=(if(fB s).isSome then 0 else 1)/\lr s=fB s:=by
 unfold lq lr;rw[if_neg a,if_neg a,Nq];cases fB s<;>exact⟨rfl,rfl⟩
theorem PZ(a:ByteArray):∃(b:List ByteArray) (c:ByteArray),splitB ⟨#[10]⟩ 0 (countB a ⟨#[10]⟩) a=b++[c]/\b.length=countB a ⟨#[10]⟩/\(∀f,gU f [] (bG a)=iP f (b.map bG))/\(bG c=[]↔(bG a=[]\/(bG a).getLast?=some 10)):=by
 obtain⟨b,c,g,h,i,j⟩:=OW (countB a ⟨#[10]⟩) (bG a) rfl;have k:=Lib.splitB_data ⟨#[10]⟩ 0 (countB a ⟨#[10]⟩) a;have l:(splitB ⟨#[10]⟩ 0 (countB a ⟨#[10]⟩) a).map bG=b++[c]:=k.trans g;refine⟨b.map bN,bN c,?_,by rw[length_map,h],λf=>?_,by rw[de];exact j⟩
 .have:=congrArg (List.map bN) l;rw[map_map,List.map_append] at this;have e:(bN∘bG)=id:=funext λd=>gr d;rw[e,map_id] at this;exact this
 rw[i,map_map];have e:(bG∘bN)=id:=funext λd=>de d;rw[e,map_id]
theorem Fg(a:ByteArray):∀(k:Nat) (s:ByteArray),∀l∈splitB a 0 k s,l.size<=s.size
 |0,s,l,hl=>by
  rw[splitB,mem_singleton] at hl
  rw[hl]
  exact le_refl _
 |k+1,s,l,hl=>by
  rw[splitB] at hl
  split at hl
  .rw[mem_singleton] at hl
   rw[hl]
   exact le_refl _
  rcases List.mem_cons.1 hl with rfl|hl
  .rw[size_extract]
   omega
  have:=Fg a k _ l hl
  rw[size_extract] at this
  omega
theorem P3(a l:ByteArray)(b:l∈splitB ⟨#[10]⟩ 0 (countB a ⟨#[10]⟩) a):l.size<=a.size:=Fg _ _ a l b
theorem OV(c:dQ){b:List (List UInt8)}{a:Nat}(d:a<b.length):iP c (b.drop a)=(cq c b[a]).2++[10]++iP (cq c b[a]).1 (b.drop (a+1)):=by
 rw[List.drop_eq_getElem_cons d,iP]
structure bA (D:Nat) (W:World) (x0:dQ) (ls:List (List UInt8)) (j:Nat) (O:ByteArray) (x:dQ) (pv rv:Value) (wr:World):Prop where
 eq:iP x0 ls=bG O++iP x (ls.drop j)
 at_:al wr D x pv rv
 below:Below D W wr
theorem Ye(h:p:=by simp[results,results4,go_sem,bN]):p:=h
theorem ZS(h:p:=by
 go_wp2_with fail
 exact bodyPost_ret (v:=.tuple #[.string (bN []),.int .i64 2]) Ye rfl ⟨XY,HB.out⟩):p:=h
theorem EU(z:World)(s d:ByteArray)(aZ:s.size<=9223372036854775807)(bp:d.size<=9223372036854775807)(aJ:aD z):Calls prog 4 #[.string s,.string d] z λe a7=>e=.returned (.tuple #[.string (bN (kR (bG s) (bG d))),.int .i64 (eZ (bG s) (bG d))])/\Below z z a7:=by
 have ax:=bK aJ;have l:=Pu z (bG s) (by rw[cD];exact aZ);rw[gr] at l;clear aJ;by_cases y:4096<s.size
 .have HE:Hid (eZ (bG s) (bG d)=2):=by show _=_;unfold eZ;rw[cD,if_pos y]
  have x:lq (bG s)=2/\lr (bG s)=none:=by
   unfold lq lr;rw[cD,if_pos y,if_pos y];exact⟨rfl,rfl⟩
  rw[x.1,x.2] at l;clear y x;go_enter func4,ntmps4;go_wp2_with fail;refine l.mono ?_;rintro e t ⟨aK,an,rfl,⟨rfl,rfl⟩,r⟩;have HB:Hid (Below z z (t.alloc (.cells #[.slice none 0 0,.slice none 0 0] 30))):=r.trans ((bH _ _).mono r.size);clear r l;exact ZS
 have x:=Pv (s:=bG s) (by rw[cD];exact y);rw[x.1,x.2] at l;have q:Hid (eZ (bG s) (bG d)=match fB (bG s) with|none=>1|some _=>if 4096<(bG d).length\/40<(bG d).count 10 then 2 else if bG d=[]\/(bG d).getLast?=some 10 then 0 else 1):=by show _=_;unfold eZ;rw[cD,if_neg y];all_goals cases fB (bG s)<;>rfl
 have C:Hid (kR (bG s) (bG d)=if eZ (bG s) (bG d)=0 then gU ((fB (bG s)).getD ([],[])) [] (bG d) else[]):=rfl;have Z:=hid_ λk (a1:fB (bG s)=some k)=>(sN.1 (show fB (bG s)=some (k.1,k.2) from a1)).1;clear y x;cases I:fB (bG s) with
 |none=>
  rw[I] at l q;have HE:Hid (eZ (bG s) (bG d)=1):=q.out;rw[show(if(none:Option dQ).isSome=true then(0:Int) else 1)=1 from rfl] at l;clear q C Z I;go_enter func4,ntmps4;go_wp2_with fail;refine l.mono ?_;rintro e t ⟨aK,an,rfl,⟨rfl,rfl⟩,r⟩;have HB:Hid (Below z z (t.alloc (.cells #[.slice none 0 0,.slice none 0 0] 30))):=r.trans ((bH _ _).mono r.size);clear r l;go_wp2_with fail;exact bodyPost_ret (v:=.tuple #[.string (bN []),.int .i64 1]) Ye rfl ⟨XY,HB.out⟩
 |some f=>
  have aQ:=bK (Z f I);rw[I] at l q C;simp only at q;rw[show(some f).getD ([],[])=f from rfl] at C;rw[show(if(some f:Option dQ).isSome=true then(0:Int) else 1)=0 from rfl] at l;clear Z I;go_enter func4,ntmps4;go_wp2_with fail;refine l.mono ?_;rintro e t ⟨aK,an,rfl,⟨aI,ah⟩,r⟩;clear l
  have aG:kM an:=by
   obtain⟨bu,_,_,Q,_⟩:=id ah;exact rV Q
  have ai:=aI.b;have aj:=ah.a;obtain⟨m,n,rfl,_⟩:=id ai;obtain⟨o,p,rfl,_⟩:=id aj;have S:=bH t (.cells #[.slice m f.1.length n,.slice o f.2.length p] 30);have ay:Hid (cR (t.alloc (.cells #[.slice m f.1.length n,.slice o f.2.length p] 30)) t (.slice m f.1.length n) (.slice o f.2.length p)):=heap_alloc_new t _;have aa:=bK (And.intro (bR.a S ai) (ck.a S aj));have aO:=bK aG;have HB:=hid_ (r.trans (S.mono r.size));clear aI ah ai aj aG r S;by_cases bd:(4096:Int)<(d.size:Int)
  .have HE:Hid (eZ (bG s) (bG d)=2):=by
    show _=_;rw[q.out,if_pos];exact .inl SZ
   clear q C;exact ZS
  have ar:=M5 d (t.alloc (.cells #[.slice m f.1.length n,.slice o f.2.length p] 30));go_wp2_with fail;generalize t.alloc (.cells #[.slice m f.1.length n,.slice o f.2.length p] 30)=D at*;generalize t.heap.size=ba at*;refine mo_ ar λbx a0=>?_;obtain rfl:=a0.symm;clear ar;by_cases be:(40:Int)<(((bG d).count 10:Nat):Int)
  .have HE:Hid (eZ (bG s) (bG d)=2):=by
    show _=_;rw[q.out,if_pos];exact .inr Q0
   clear q C;generalize(bG d).count 10=aV at*;exact ZS
  have N:Hid (eZ (bG s) (bG d)=if bG d=[]\/(bG d).getLast?=some 10 then 0 else 1):=by
   show _=_;rw[q.out,if_neg];rw[cD];rintro(h|h)<;>omega
  have ab:=PY d Q0 D (ax.out.a HB.out);obtain⟨g,U,ad,ae,aB,aC⟩:=PZ d;have aW:countB d ⟨#[10]⟩<=d.size:=Lib.countB_le _ QY _ d (le_refl _);rw[ad,<-ae] at ab;rw[<-ae] at aW
  have aP:Hid (∀am∈g,(bG am).length<=4096):=λam y=>by
   have:=P3 d am (by rw[ad];exact List.mem_append_left _ y);rw[cD];omega
  have aq:=bK aB;have L:=bK aC;clear q ad ae aB aC;generalize(bG d).count 10=aV at*;go_wp2_with fail;refine mo_ ab λj J=>?_;clear ab;have G:Below D D j:=by rw[J];exact bH _ _
  have aw:Hid (∀ao,Below j j ao->(∀(i:Nat) ap,(g++[U])[i]? =some ap->ao.cell? ⟨D,i,none⟩=some (.string ap))):=λao a2 i ap aH=>by
   have E:D.heap.size<j.heap.size:=by rw[J];simp
   rw[bF a2 E,J,World.cell?_alloc_mark,List.getElem?_toArray,List.getElem?_map,aH];rfl
  have aA:=bK (ay.out.b G);have ac:=bK (And.intro (bR.a G aa.out.1) (ck.a G aa.out.2));have K:=bK (HB.out.trans (G.mono HB.out.size));have a8:Hid (D.heap.size<j.heap.size):=by show _<_;rw[J];simp
  clear J ay aa HB G;generalize D.heap.size=a9 at*;have bo:((g.length:Int)+1)-1=(g.length:Int):=Q0;have bm:(0:Int)<=(g.length:Int):=Q0;have bn:(g.length:Int)<(g.length:Int)+1:=Q0;have aU:=aw j (Below.refl _ _) g U Q1;have ak:=yM U;by_cases F:bG U=[]
  case neg=>
   have HE:Hid (eZ (bG s) (bG d)=1):=by
    show _=_;rw[N.out,if_neg];exact λh=>F (L.out.2 h)
   rw[decide_eq_false F] at ak;clear N C aq L;go_wp2_with fail;exact bodyPost_ret (v:=.tuple #[.string (bN []),.int .i64 1]) Ye rfl ⟨XY,K.out⟩
  have HE:Hid (eZ (bG s) (bG d)=0):=by
   show _=_;rw[N.out,if_pos (L.out.1 F)]
  rw[decide_eq_true F] at ak;obtain⟨aR,aS,_,_⟩:=aA.out.a;have H:=bH j (.cells #[.slice m f.1.length n,.slice o f.2.length p] 38);have au:Hid (bA j j f (g.map bG) 0 ⟨#[]⟩ f (.slice m f.1.length n) (.slice o f.2.length p) (j.alloc (.cells #[.slice m f.1.length n,.slice o f.2.length p] 38))):=⟨rfl,⟨heap_alloc_new j _,bR.a H ac.out.1,ck.a H ac.out.2,aO.out,aQ.out,j,ax.out.a K.out,le_refl _,H⟩,H⟩;clear N L F H aA ac;go_wp2_with fail;generalize j.alloc (.cells #[.slice m f.1.length n,.slice o f.2.length p] 38)=bb at*;clear aR aS aU ak;go_loopw [11,49] (λa6 al wr=>∃(i:Nat) (w:ByteArray) (k:dQ) (m:Option Addr) (n:Nat) (o:Option Addr) (p:Nat),i<=g.length/\al=.int .i64 i/\a6=.string w/\w.size<=i*4020/\Hid (bA j j f (g.map bG) i w k (.slice m k.1.length n) (.slice o k.2.length p) wr)) (λ_ al _=>g.length-(intOf al).toNat)
  case atStart=>exact⟨0,_,_,_,_,_,_,zero_le _,rfl,rfl,le_refl _,au⟩
  clear au;obtain⟨i,w,k,m,n,o,p,aH,rfl,rfl,bh,A⟩:=hrel;by_cases E:i<g.length
  .have bl:(i:Int)<(g.length:Int):=Q0;have bk:(0:Int)<=(i:Int):=Q0;have aT:=aw wr A.out.below i g[i] (by rw[List.getElem?_append_left E,List.getElem?_eq_getElem E]);have a5:=(aP _ (List.getElem_mem E));have W:=My wr j.heap.size k m o n p (bG g[i]) A.out.at_ a5;rw[gr] at W
   have O:Hid (iP f (g.map bG)=bG w++((cq k (bG g[i])).2++[10]++iP (cq k (bG g[i])).1 ((g.map bG).drop (i+1)))):=by
    show _=_;have aX:i<(g.map bG).length:=by rw[length_map];exact E
    rw[A.out.eq,OV k aX,List.getElem_map]
   generalize g[i]=az at*;go_wp2_with fail;refine W.mono ?_;clear W aT;rintro e aL ⟨P,u,bs,bt,bv,bw,rfl,⟨bf,aF,R⟩,aE,Q⟩;have B:=bK (And.intro aE (A.out.below.trans Q));have bi:(bN P).size<=4000:=by rw[du];exact aF
   clear aE Q A aF;by_cases af:u=0
   .subst af
    have X:Hid (iP f (g.map bG)=bG (w++(bN P++⟨#[10]⟩))++iP (cq k (bG az)).1 ((g.map bG).drop (i+1))):=by
     show _=_;rw[O.out,<-R,d_,d_,de,if_pos rfl,show bG (⟨#[10]⟩:ByteArray)=[10] from rfl];exact ad6
    have a3:¬9223372036854775807<(bN P).size+1:=Q0;have a4:¬9223372036854775807<w.size+((bN P).size+1):=Q0;clear R O;go_wp2_with fail;go_roundw
    case rel=>
     refine⟨i+1,_,_,_,_,_,_,Q0,Rv,rfl,?_,X.out,B.out.1,B.out.2⟩;simp only[size_append];have x:(⟨#[10]⟩:ByteArray).size=1:=rfl;omega
    exact S6
   have bg:((u:Int) != 0)=true:=RD;have T:=bH aL (.cells #[u] 3);have Y:=sy _ _ [u] (sK aL u) ⟨Q1,λbr aY=>by rw[mem_singleton] at aY;omega⟩ (B.out.1.e.a T);rw[show fp [u]=decDigits u by simp[fp,List.intercalate]] at Y;have bj:(bN (decDigits u)).size<=9:=by rw[du];exact su Q0
   have X:Hid (iP f (g.map bG)=bG (w++(⟨#[101,114,114,111,114,32]⟩++bN (decDigits u)++⟨#[10]⟩))++iP (cq k (bG az)).1 ((g.map bG).drop (i+1))):=by
    show _=_;rw[O.out,<-R,if_neg af,d_,d_,d_,de,show bG (⟨#[10]⟩:ByteArray)=[10] from rfl,eY,Int.toNat_natCast,show bG (⟨#[101,114,114,111,114,32]⟩:ByteArray)=[101,114,114,111,114,32] from rfl];exact ad6
   have M:=bK (And.intro (B.out.1.b T) (B.out.2.trans (T.mono (Nat.le_of_lt B.out.1.c))));clear R O T B af;go_wp2_with fail;refine mo_ Y λbz ag=>?_;have av:=bK (And.intro (M.out.1.b ag) (M.out.2.trans (ag.mono (Nat.le_of_lt M.out.1.c))));clear Y ag M;generalize bN (decDigits u)=V at*;have bq:¬9223372036854775807<6+V.size:=Q0;have a3:¬9223372036854775807<6+V.size+1:=Q0;have a4:¬9223372036854775807<w.size+(6+V.size+1):=Q0;go_wp2_with fail;go_roundw
   case rel=>
    refine⟨i+1,_,_,_,_,_,_,Q0,Rv,rfl,?_,X.out,av.out.1,av.out.2⟩;simp only[size_append];have x:(⟨#[10]⟩:ByteArray).size=1:=rfl;have bc:(⟨#[101,114,114,111,114,32]⟩:ByteArray).size=6:=rfl;omega
   exact S6
  obtain rfl:i=g.length:=Q0
  have aM:Hid (w=bN (kR (bG s) (bG d))):=by
   show _=_;have:=A.out.eq;rw[List.drop_of_length_le (by rw[length_map];omega),iP,List.append_nil] at this;rw[C.out,if_pos HE.out,aq.out,this,gr]
  have aN:=hid_ (K.out.trans (A.out.below.mono K.out.size));go_wp2_with fail;rw[aM.out];exact bodyPost_ret (v:=.tuple #[.string (bN (kR (bG s) (bG d))),.int .i64 0]) (by simp[results,results4,go_sem]) rfl ⟨Xc,aN.out⟩
theorem PC(a:World):Calls prog 15 #[] a λe b=>∃c f d g i h,e=.returned (.agg #[.slice c f d,.slice g i h])/\bR b (.slice c f d) b9/\ck b (.slice g i h) ca/\Below a a b:=
 (JM a).mono λ_ _ ⟨_,_,k,_,_,_,l,m,_,_,_,j⟩=>⟨_,_,_,_,_,_,k,l,m,j⟩
theorem Ng(g:World)(r:aD g):Calls prog 6 #[] g λe j=>e=.returned (.bool true)/\Below g g j:=by
 obtain⟨c,f⟩:=ex_ (ko b9 ca)
 have x:c.size<=9223372036854775807:=by
  rw[<-f];have:(ko b9 ca).size=185:=QX;omega
 have u:=bK r;have o:bG c=iw b9 ca:=by rw[<-f];exact uX _ _
 have d:Hid (∀b,aD b->Calls prog 4 #[.string c,.string (bN oJ)] b λe j=>e=.returned (.tuple #[.string (bN vC),.int .i64 0])/\Below b b j):=λb y=>by
  have:=EU b c (bN oJ) x (by rw[du];decide) y;rw[o,de,DZ.1,DZ.2] at this;exact this
 have t:Hid (pq b9 ca=c):=by show _=_;unfold pq;rw[if_pos lH,f]
 unfold bN oJ vC at d;simp only at d;clear f o r;go_enter func6,ntmps6;go_wp2_with fail;refine(PC _).mono ?_;rintro e v ⟨A,C,B,D,F,E,rfl,p,q,l⟩;have i:=Np v _ _ b9 ca p q Jp;rw[t.out,lH] at i;have k:=bK l;clear p q l;go_wp2_with fail;refine mo_ i λw m=>?_;have h:=bK (k.out.trans (m.mono k.out.size));clear i m;go_wp2_with fail;refine mo_ (d w (u.out.a h.out)) λz n=>?_;have s:=bK (h.out.trans (n.mono h.out.size));clear n d;go_wp2_with fail;go_ret;exact⟨rfl,s.out⟩
theorem Of(c:World)(s b:ByteArray)(f:s.size<=9223372036854775807)(g:b.size<=9223372036854775807)(h:aD c):Calls prog 3 #[.string s,.string b] c λe t=>e=.returned (.bool true)/\Below c c t:=by
 have k:=EU c s b f g h;have q:=hid_ (λw=>OU w s b f g);have r:=bK h;generalize bN (kR (bG s) (bG b))=l at*;generalize eZ (bG s) (bG b)=i at*;have x:(l.toList==l.toList)=true:=Q1;have y:(i==i)=true:=Q1;clear h f g;go_enter func3,ntmps3;go_wp2_with fail;refine mo_ k λu m=>?_;have j:=bK m;clear m k;go_wp2_with fail;refine mo_ (q u) λv n=>?_;have d:=bK (j.out.trans (n.mono j.out.size));clear n;go_wp2_with fail;refine mo_ (Ng v (r.out.a d.out)) λz o=>?_;have p:=bK (d.out.trans (o.mono d.out.size));clear o;go_wp2_with fail;go_ret;exact⟨rfl,p.out⟩
