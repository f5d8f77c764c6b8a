import Derived.Test.YtlfccloaoopadagGreatDoorG39
import Derived.Test.YtlfccloaoopadagGreatDoorG41
open Go.Proofs.Tryz
set_option maxRecDepth 100000
set_option maxHeartbeats 0
open List (append_nil cons_ne_nil getElem_mem length_append length_nil mem_filter mem_map set_cons_succ set_cons_zero)
open Nat (le_refl le_trans lt_of_lt_of_le zero_le)
open Or (inl)
namespace Go.Proofs.YtlfccloaoopadagGreatDoor
open Go.RowKit Go.Shelf
variable{p:Prop}
attribute [local go_sem] Oper.semAt_some
theorem Ww(h:p:=by cases h.1):p:=h
theorem Wx(h:p:=by have:=HBL.out.2;omega):p:=h
theorem Wy(h:p:=by have:=hnd b hb;have:=HBL.out.1;omega):p:=h
theorem YL(h:p:=by (intro w hSw;(try dsimp only at hSw);obtain⟨h0,h1,h2,h3,h4,h5⟩:=hSw;go_simp;try with_reducible rfl)):p:=h
theorem CY(w:World)(j:Nat)(aL ad ah av:Value)(N:Nat)(W:Array Value)(D:Nat)(Z ac:Array Value)(g:List Prd)(r:List Rul)(f C:List Fct)(v:Rul->Bool)(first:Bool)(V:fT w j aL ad ah av)(bL:bR w aL g)(H:ck w ad r)(bG:bO w ah f)(bC:eQ ah)(bK:∀b,ah.ownBlock=some b->b≠j)(cM:dU g)(aU:bP g r=0)(bi:bW g f=0)(ct:∀aF w,(callFunc N aF).run prog w=.ok (.enter N aF) w)(cu:∀aF w,(callFunc D aF).run prog w=.ok (.enter D aF) w)(bM:∀(d:World) (n:Nat) (V:n<r.length) (bh:Option Addr) (ay:Nat) (a9:Option Addr) (ba:Nat),Below w w d->Calls prog N (#[.agg #[.int .i64 r[n].head.pred,.slice bh r[n].head.args.length ay,.int .i64 r[n].src,.int .i64 r[n].n,.slice a9 r[n].body.length ba]]++W) d λe k=>e=.returned (.bool (v r[n]))/\Below d d k)(bN:∀(d:World) (n:Nat) (V:n<r.length) (aj:Stp),aj∈bI f r[n] n->Below w w d->Calls prog D (Z++#[.agg #[aj.rule,aj.x,aj.y,aj.z]]++ac) d λe k=>e=.returned (.bool (first||fZ C r[n] aj.a))/\Below d d k):Calls prog 124 #[.pointer (some ⟨j,0,none⟩),.func (.func N) #[] W,.func (.func D) Z ac] w λe k=>∃I u,e=.returned (.int .i64 ((cH g v first C f r).length:Int))/\fT k j aL ad I u/\bO k I (cA (bJ g) f (cH g v first C f r))/\eQ I/\(∀b,I.ownBlock=some b->b≠j)/\bO k u (cO f (cA (bJ g) f (cH g v first C f r)))/\aB j w k:=by
 have ak:Hid (bR w aL g/\ck w ad r/\bO w ah f/\fT w j aL ad ah av):=⟨bL,H,bG,V⟩;have ao:Hid (bP g r=0/\bW g f=0/\dU g):=⟨aU,bi,cM⟩;have ca:Hid (eQ ah/\∀b,ah.ownBlock=some b->b≠j):=⟨bC,bK⟩;have ch:=hid_ (xI aU v first C f);have a2:=hid_ (CZ aU bi v first C);have cB:=(kL V).2.2.2.2.2.2;obtain⟨X,Y,rfl,_⟩:=bL;obtain⟨L,M,rfl,_⟩:=bG;obtain⟨R,hW1⟩:=ex_ (w.alloc (.cells #[.pointer (some ⟨j,0,none⟩)] 177));have ar:Below w w R:=VO;have aM:R.heap.size=w.heap.size+1:=UA;have cW:R.cell? w=some (.pointer (some ⟨j,0,none⟩)):=UB;obtain⟨_,_,cU,_⟩:=kL (om ar V);have bw:=hid_ λd (o:Below R R d)=>an_ ((bF o Q0).trans cW) (an_ (om (ar.trans (o.mono ar.size)) ak.out.2.2.2) (ar.trans (o.mono ar.size)));clear aU bi bC bK V H;refine(callsIn_wide (n:=6)).1 (callsIn_of_wp_marks func124 rfl trivial (wpIn_wide.2 ?_) rfl);simp only[ntmps124,List.size_toArray,List.length_cons,length_nil,Nat.reduceAdd,Nat.reduceSub,Array.replicate_succ,Array.replicate_zero,List.push_toArray,List.append_toArray,List.nil_append,List.cons_append];go_wp2_with fail;obtain⟨J,aw⟩:=ex_ ((R.alloc (.cells #[.slice L f M] 65)).alloc (.cells #[.int .i64 0] 3));have cr:Below R R J:=by rw[<-aw];exact((Below.refl _ _).alloc (le_refl _) _).alloc Q1 _
 have br:J.heap.size=w.heap.size+1+1+1:=by rw[<-aw];simp[aM]
 have a5:Boxed J (w.heap.size+1) 65 (.slice L f M):=by rw[<-aw,<-aM];exact(Below.heap_alloc _ _ _ Q1).trans (World.alloc_heap_new R _)
 have a6:Boxed J (w.heap.size+1+1) 3 (.int .i64 0):=by
  rw[<-aw,<-aM];have:=World.alloc_heap_new (R.alloc (.cells #[.slice L f M] 65)) (.cells #[.int .i64 0] 3);rwa[World.size_alloc] at this
 rw[aw];clear aw;refine mo_ (LC J j N W D Z ac) λS hW7=>?_;have a8:Below J J S:=Wg;have dA:S.heap.size=J.heap.size+1+1+1:=by rw[hW7];simp
 have c9:S.cell? J=some (.pointer (some ⟨j,0,none⟩)):=Wh;have db:S.cell? ⟨J.heap.size+1,0,none⟩=some (.func (.func N) #[] W):=Wh;have dd:S.cell? ⟨J.heap.size+1+1,0,none⟩=some (.func (.func D) Z ac):=Wh;clear hW7;go_wp2_with fail;have a7:=bt_ cr a8;have bl:=bt_ ar a7;have cp:Boxed S (w.heap.size+1) 65 (.slice L f M):=(a8.block _ a5.lt).trans a5;have cq:Boxed S (w.heap.size+1+1) 3 (.int .i64 0):=(a8.block _ a6.lt).trans a6;have cg:=hid_ (bO.a bl ak.out.2.2.1);have bS:=(bw _ a7).2.1;have aO:Hid (∀d,ag w.heap.size (λF=>F=w.heap.size+1\/F=w.heap.size+1+1) S d->d.cell? w=some (.pointer (some ⟨j,0,none⟩))/\fT d j (.slice X g Y) ad (.slice L f M) av/\Below w w d):=λd o=>⟨o.but.a Q0 (bw _ a7).1,o.but.same j _ Q0 bS rfl,bl.trans o.below⟩;have cm:=hid_ (λd n V bh ay a9 ba o=>bM d n V bh ay a9 ba (aO d o).2.2);have cn:=hid_ (λd n V aj cN o=>bN d n V aj cN (aO d o).2.2)
 have b9:Hid (∀d aC q s p m,bO d (.slice q s p) aC->eQ (.slice q s p)->bW g aC=0->cw g m=true->Below w w d->Calls prog 157 #[.slice X g Y,.slice q s p,.agg #[m.pred,m.a,m.b,m.val]] d λe k=>∃B P K,e=.returned (.tuple #[.slice B P K,.bool (dR (bJ g) m aC),.int .i64 0])/\bO k (.slice B P K) (cy (bJ g) m aC)/\fW d (.slice B P K)/\Below d d k):=λd aC q s p m h1 h2 h3 h4 o=>by
  have h:=zt d _ _ g aC m.pred m.a m.b m.val (bR.a o ak.out.1) h1 h2;rw[xo h3 h4] at h;refine h.mono ?_;rintro e k ⟨I,cE,cF,bE,hb⟩;obtain⟨⟨B,P,K,cP,_⟩,_⟩:=id bE;subst cP;exact⟨B,P,K,cE,cF,bE,hb⟩
 clear bM bN a5 a6 cU
 refine(wpIn_wide (n:=6)).1 (wpIn_rangeFunc_ownH (α:=kI (cH g v first C f r)) rfl Q0 (gf:=213) (lb:=#[.pointer (some ⟨w.heap.size+1+1+1,0,none⟩),.pointer (some ⟨w.heap.size+1+1+1+1,0,none⟩),.pointer (some ⟨w.heap.size+1+1+1+1+1,0,none⟩)]) rfl trivial (enters_of func213 SI rfl)
  (LA (6-1) Q0 (w.heap.size+1+1+1) (w.heap.size+1+1+1+1) (w.heap.size+1+1+1+1+1) j w (λF=>F=w.heap.size+1\/F=w.heap.size+1+1) (.slice X g Y) ad (.slice L f M) av N W D Z ac g r f v first C S Q0 Q0 Q0 Q0 (λF cJ=>Q0) Q0 (by rw[<-br];exact c9) bS (by rw[<-br];exact db) (by rw[<-br];exact dd) w rfl bl ak.out.1 ak.out.2.1 ak.out.2.2.1 ao.out.2.2 ao.out.1 ao.out.2.1 ct cu cm cn.out)
  ag.a (λl F aY bU cJ h cL _=>⟨(Below.refl _ l).grown (grownBy_putObj' l F bU) Wj (λdu e=>Wk),aq.b _ bU h cL⟩) (Below.refl _ _) (λ_=>rfl)
  (λA l=>∃q s p,Boxed l (w.heap.size+1) 65 (.slice q s p)/\bO l (.slice q s p) (cA (bJ g) f (eD A))/\(eQ (.slice q s p)/\∀b,(Value.slice q s p).ownBlock=some b->b≠j)/\Boxed l (w.heap.size+1+1) 3 A.length/\ag w.heap.size (λF=>F=w.heap.size+1\/F=w.heap.size+1+1) S l)
  (λ_ _ _=>False)
  (λA a0 j bq aI ab H=>by
   obtain⟨q,s,p,aG,D,aH,be,au⟩:=aI
   exact⟨q,s,p,boxed_own _ _ (fun(_:Unit)=>_) () a0 j bq aG ab (λG e=>(H G e).2),rD D ab (λG e=>(H G e).2),aH,boxed_own _ _ (fun(_:Unit)=>_) () a0 j bq be ab (λG e=>(H G e).2),uq au ab Q0 H⟩)
  (λ_ _ _ _ _ aI _ _=>aI)
  ⟨L,f,M,cp,cg.out,ca.out,cq,ag.c _ _ _⟩
  (λd B l=>∃t,w.heap.size+1+1<t/\l.cell? t=some (.int .i64 d.1.pred)/\l.cell? ⟨t,1,none⟩=some (.int .i64 d.1.a)/\l.cell? ⟨t,2,none⟩=some (.int .i64 d.1.b)/\l.cell? ⟨t,3,none⟩=some (.int .i64 d.1.val)/\B={tmps:=#[.pointer (some ⟨j,0,none⟩),.func (.func N) #[] W,.func (.func D) Z ac,.pointer (some ⟨w,0,none⟩),undef,undef,.int .i64 0,.pointer (some ⟨w.heap.size+1,0,none⟩),.pointer (some ⟨w.heap.size+1+1,0,none⟩),.pointer (some ⟨t,0,none⟩),undef,.pointer (some ⟨j,0,none⟩),.pointer (some ⟨j,0,none⟩),.pointer (some ⟨j,2,none⟩),.slice L f M,.pointer (some ⟨j,0,none⟩),.func (.func N) #[] W,.func (.func D) Z ac,.func (.func 213) #[] #[.pointer (some ⟨w.heap.size+1+1+1,0,none⟩),.pointer (some ⟨w.heap.size+1+1+1+1,0,none⟩),.pointer (some ⟨w.heap.size+1+1+1+1+1,0,none⟩)],.agg #[d.1.pred,d.1.a,d.1.b,d.1.val],undef,undef,undef,undef,undef,undef,undef,undef,undef,undef,undef,undef,undef,undef,undef,undef,undef,undef,undef,undef,undef,undef,undef,undef,undef,undef,undef],defers:=[]})
  (λd B _ a0 j bq aI ab H=>by
   obtain⟨t,cz,cv,aG,D,aH,rfl⟩:=aI
   exact⟨t,cz,cell_kept cv ab (λG e=>(H G e).2),cell_kept aG ab (λG e=>(H G e).2),cell_kept D ab (λG e=>(H G e).2),cell_kept aH ab (λG e=>(H G e).2),rfl⟩) ?assign ?body ?done ?stop)
 case assign=>
  rintro cS A d l ap ⟨q,s,p,aG,D,aH,be,au⟩ E;dsimp only[oZ] at E⊢;gi_wp2;refine E _ _ ((KeepsOthers.alloc _ _).from _) (ag.b (bH _ _) (le_trans Q0 au.but.size)) ⟨q,s,p,aG.alloc _,bO.a (bH _ _) D,aH,be.alloc _,au.a (ag.b (bH _ _) (le_trans Q0 au.but.size))⟩ ⟨l,by have:=au.but.size;omega,?_,?_,?_,?_,rfl⟩;all_goals simp[go_sem]
 case body=>
  rintro cS A ⟨m,bk⟩ B l dp dt ⟨q,s,p,al,aW,az,O,aX⟩ ⟨t,dm,aR,bb,bc,bd,rfl⟩ ds;dsimp only at aR bb bc bd⊢;have cG:=a2 m bk
  have aP:Hid (bW g (cA (bJ g) f (eD A))=0):=lK ao.out.2.1 λd o=>by
   obtain⟨bs,_,rfl⟩:=mem_map.1 o;exact a2 _ bs.2
  have bv:Hid (eD (A++[(⟨m,bk⟩:kI (cH g v first C f r))])=eD A++[m]/\((A++[(⟨m,bk⟩:kI (cH g v first C f r))]).length:Int)=(A.length:Int)+1):=⟨rE _ _,by rw[length_append];rfl⟩;have ci:Hid (cA (bJ g) f (eD A++[m])=cy (bJ g) m (cA (bJ g) f (eD A))):=rC _ _ _ _;obtain⟨am,aD,aK⟩:=aO l aX;obtain⟨aZ,_⟩:=kL aD;have bu:Hid (∀d,Below l l d->Calls prog 157 #[.slice X g Y,.slice q s p,.agg #[m.pred,m.a,m.b,m.val]] d λe k=>∃B P K,e=.returned (.tuple #[.slice B P K,.bool (dR (bJ g) m (cA (bJ g) f (eD A))),.int .i64 0])/\bO k (.slice B P K) (cy (bJ g) m (cA (bJ g) f (eD A)))/\fW l (.slice B P K)/\Below d d k):=λd o=>(b9 d _ q s p m (bO.a o aW) az.1 aP cG (aK.trans (o.mono aK.size))).mono λ_ _ ⟨B,P,K,bn,bo,bp,cX⟩=>⟨B,P,K,bn,bo,bp.a o.size,cX⟩;have aA:=al.cell;have dq:=O.lt;have aS:=tC aR;have aE:Hid (∀d,Below l l d->(λk:World=>k.cell? w=some (.pointer (some ⟨j,0,none⟩))/\k.cell? j=some (.slice X g Y)/\k.cell? t=some (.int .i64 m.pred)/\k.cell? ⟨t,1,none⟩=some (.int .i64 m.a)/\k.cell? ⟨t,2,none⟩=some (.int .i64 m.b)/\k.cell? ⟨t,3,none⟩=some (.int .i64 m.val)) d):=λd o=>⟨(bF o Q0).trans am,(bF o Q0).trans aZ,(bF o aS).trans aR,(bF o aS).trans bb,(bF o aS).trans bc,(bF o aS).trans bd⟩;have bA:Hid (∀d I,(λk:World=>k.cell? w=some (.pointer (some ⟨j,0,none⟩))/\k.cell? j=some (.slice X g Y)/\k.cell? t=some (.int .i64 m.pred)/\k.cell? ⟨t,1,none⟩=some (.int .i64 m.a)/\k.cell? ⟨t,2,none⟩=some (.int .i64 m.b)/\k.cell? ⟨t,3,none⟩=some (.int .i64 m.val)) d->(λk:World=>k.cell? w=some (.pointer (some ⟨j,0,none⟩))/\k.cell? j=some (.slice X g Y)/\k.cell? t=some (.int .i64 m.pred)/\k.cell? ⟨t,1,none⟩=some (.int .i64 m.a)/\k.cell? ⟨t,2,none⟩=some (.int .i64 m.b)/\k.cell? ⟨t,3,none⟩=some (.int .i64 m.val)) (d.setCell ⟨w.heap.size+1,0,none⟩ I)):=λd I ⟨c4,aM,c5,c6,c7,c8⟩=>⟨by rw[cb Q0];exact c4,by rw[cb Q0];exact aM,by rw[cb Q0];exact c5,by rw[cb Q0];exact c6,by rw[cb Q0];exact c7,by rw[cb Q0];exact c8⟩;gi_wp2_with fail;refine wpIn_mono (Q:=λe B k=>e=.normal/\(∃T af ai aa,k=T.setCell ⟨w.heap.size+1,0,none⟩ (.slice af ai aa)/\bO T (.slice af ai aa) (cy (bJ g) m (cA (bJ g) f (eD A)))/\fW l (.slice af ai aa)/\Below l l T)/\∃bV bX bY bZ b0 b1 b2 b3 b4 b5 b6 b7:Value,B={tmps:=#[.pointer (some ⟨j,0,none⟩),.func (.func N) #[] W,.func (.func D) Z ac,.pointer (some ⟨w,0,none⟩),undef,undef,.int .i64 0,.pointer (some ⟨w.heap.size+1,0,none⟩),.pointer (some ⟨w.heap.size+1+1,0,none⟩),.pointer (some ⟨t,0,none⟩),undef,.pointer (some ⟨j,0,none⟩),.pointer (some ⟨j,0,none⟩),.pointer (some ⟨j,2,none⟩),.slice L f M,.pointer (some ⟨j,0,none⟩),.func (.func N) #[] W,.func (.func D) Z ac,.func (.func 213) #[] #[.pointer (some ⟨w.heap.size+1+1+1,0,none⟩),.pointer (some ⟨w.heap.size+1+1+1+1,0,none⟩),.pointer (some ⟨w.heap.size+1+1+1+1+1,0,none⟩)],.agg #[m.pred,m.a,m.b,m.val],bV,bX,bY,bZ,b0,b1,b2,b3,b4,b5,b6,b7,undef,undef,undef,undef,undef,undef,undef,undef,undef,undef,undef,undef,undef,undef,undef],defers:=[]}) ?reg ?rest
  case reg=>
   refine Jz (S:=(λk:World=>k.cell? w=some (.pointer (some ⟨j,0,none⟩))/\k.cell? j=some (.slice X g Y)/\k.cell? t=some (.int .i64 m.pred)/\k.cell? ⟨t,1,none⟩=some (.int .i64 m.a)/\k.cell? ⟨t,2,none⟩=some (.int .i64 m.b)/\k.cell? ⟨t,3,none⟩=some (.int .i64 m.val))) SI (λ_ _ h=>Ww) SI (aE _ (Below.refl _ _).drew) (λbf=>?_);have dv:l.drew.cell? ⟨w.heap.size+1,0,none⟩=some (.slice q s p):=aA;refine wpAnyH_take (i:=0) (v:=?_) rfl SI SI SI (λ_ _ _ h=>Ww) (inl ⟨Ug,?_⟩) Q7 ?_;rotate_left
   .exact YL
   try simp only[Act.put,List.setIfInBounds_toArray]
   refine wpAnyH_take (i:=1) (v:=?_) rfl SI SI SI (λ_ _ _ h=>Ww) (inl ⟨Ug,?_⟩) Q7 ?_;rotate_left
   .exact YL
   simp only[Act.put];refine wpAnyH_take (i:=2) (v:=?_) rfl SI SI SI (λ_ _ _ h=>Ww) (inl ⟨Ug,?_⟩) Q7 ?_;rotate_left
   .exact YL
   simp only[Act.put];refine wpAnyH_take (i:=3) (v:=?_) rfl SI SI SI (λ_ _ _ h=>Ww) (inl ⟨Ug,?_⟩) Q7 ?_;rotate_left
   .exact YL
   simp only[Act.put];refine wpAnyH_take (i:=4) (v:=?_) rfl SI SI SI (λ_ _ _ h=>Ww) (inl ⟨Ug,?_⟩) Q7 ?_;rotate_left
   .exact YL
   simp only[Act.put];refine wpAnyH_take (i:=6) (v:=?_) rfl SI SI SI (λ_ _ _ h=>Ww) (inl ⟨Ug,?_⟩) Q7 ?_;rotate_left
   .exact YL
   simp only[Act.put];refine rd_ 5 rfl λap E=>?_;go_simp;refine E.out _ _ ?_ (λbf=>?_)
   .exact aE _ (Below.refl _ _).drew
   clear E ap;try simp only[sq_]
   refine rd_ 7 rfl λap E=>?_;go_simp;refine(bu _ (Below.refl _ _).drew).mono ?_;rintro bB T ⟨af,ai,aa,rfl,h1,h2,hb⟩;have U:Below l l T:=(Below.refl _ _).drew.trans hb;refine E.out _ _ ?_ (λbf=>?_)
   .exact aE _ U
   clear E ap;have aJ:Boxed T (w.heap.size+1) 65 (.slice q s p):=(U.block _ al.lt).trans al;have dw:=aJ.cell;have dx:=aJ.frozen;try simp only[sq_]
   refine wpAnyH_take (i:=8) (v:=?_) rfl SI SI SI (λ_ _ _ h=>Ww) (inl ⟨Ug,?_⟩) Q7 ?_;rotate_left
   .exact YL
   simp only[Act.put];refine wpAnyH_take (i:=9) (v:=?_) rfl SI SI SI (λ_ _ _ h=>Ww) (inl ⟨Ug,?_⟩) Q7 ?_;rotate_left
   .exact YL
   simp only[Act.put];refine wpAnyH_take (i:=10) (v:=?_) rfl SI SI SI (λ_ _ _ h=>Ww) (inl ⟨Ug,?_⟩) Q7 ?_;rotate_left
   .exact YL
   simp only[Act.put];refine wpAnyH_take (i:=11) (v:=?_) rfl SI SI SI (λ_ _ _ h=>Ww) (inl ⟨Ug,?_⟩) Q7 ?_;rotate_left
   .exact YL
   simp only[Act.put];refine rd_ 12 rfl λap E=>?_;go_simp;refine E.out _ _ ?_ (λbf=>?_)
   .exact bA _ _ (aE _ U)
   clear E ap;try simp only[sq_]
   refine wpAnyH_done SI ?_ _;refine⟨rfl,⟨T,af,ai,aa,rfl,h1,h2,U⟩,?_⟩;(repeat apply Exists.intro);rfl
  rintro e B k ⟨rfl,⟨T,af,ai,aa,rfl,h1,h2,U⟩,bV,bX,bY,bZ,b0,b1,b2,b3,b4,b5,b6,b7,rfl⟩;clear aR bb bc bd am aZ aA aE bA bu
  have dr:0<=(A.length:Int)/\(A.length:Int)<=1000:=by
   have h3:=ch.out;omega
  have aJ:Boxed T (w.heap.size+1) 65 (.slice q s p):=(U.block _ al.lt).trans al;have cR:Boxed T (w.heap.size+1+1) 3 A.length:=(U.block _ O.lt).trans O;have bm:=cR.other (B':=w.heap.size+1) Q0 (.slice af ai aa);have dy:=bm.cell;have dz:=bm.frozen;gi_wp2_with fail;refine⟨((Cj U).trans ((KeepsOthers.setCell _ _ _).trans (KeepsOthers.setCell _ _ _))).from _,xr U Q0 Q0 _ _,?_⟩;refine⟨af,ai,aa,(aJ.set _).other Q0 _,?_,⟨h2.1,λb hb=>?_⟩,?_,aX.a (xr U Q0 Q0 _ _)⟩
  .rw[bv.out.1,ci.out];exact rM (xq h1 aJ (λF e=>T8)) (λb hb=>by have:=h2.2 b hb;omega)
  .have:=h2.2 b hb;omega
  rw[bv.out.2];exact bm.set _
 case done=>
  rintro an df l cC bg ⟨q,s,p,al,aW,az,O,aX⟩ E;rw[bg] at aW;obtain⟨am,aD,aK⟩:=aO l aX;obtain⟨aZ,cY,c0,c2,c1,c3,cZ⟩:=kL aD;have cK:(df.length:Int)=((cH g v first C f r).length:Int):=by have h3:=congrArg List.length bg;rw[xx] at h3;rw[h3]
  rw[cK] at O;have aA:=al.cell;have bQ:=O.cell;have bz:=hid_ aW;have aQ:Hid (Below w w l/\fT l j (.slice X g Y) ad (.slice L f M) av):=⟨aK,aD⟩;have aP:=hid_ (lK ao.out.2.1 a2.out);have bx:Hid ((cA (bJ g) f (cH g v first C f r)).length<=500):=le_trans (mB aP.out) Q0;have cj:=hid_ (bO.a aK ak.out.2.2.1);have cc:Hid (∀d,Below l l d->Calls prog 155 #[.slice q s p] d λe k=>∃u,e=.returned u/\rL l k u (cA (bJ g) f (cH g v first C f r))/\Below l l k):=λd o=>(KH d _ _ (bO.a o bz.out) bx.out).mono λ_ _ ⟨u,bn,bo,bp⟩=>⟨u,bn,bo.imp id (fun⟨cx,cs,dg,b8,aN⟩=>⟨cx,cs,dg,le_trans o.size b8,aN⟩),o.trans (bp.mono o.size)⟩
  have ce:Hid (∀d u,Below l l d->rL l d u (cA (bJ g) f (cH g v first C f r))->Calls prog 173 #[u,.func (.func 171) #[] #[.pointer (some ⟨w,0,none⟩)]] d λe k=>∃q n p,e=.returned (.slice q n p)/\bO k (.slice q n p) (cO f (cA (bJ g) f (cH g v first C f r)))/\(∀b,(Value.slice q n p).ownBlock=some b->l.heap.size<=b)/\Below l l k):=λd u o cQ=>by
   have h:=KJ l d u _ 171 #[.pointer (some ⟨w,0,none⟩)] (enters_of func171 SI rfl) (λm=>f.any λbs=>decide (m=bs)) o cQ bx (λde cV aV _=>LH de w j _ _ _ _ f cV ((bF aV (by have:=O.lt;omega)).trans am) (by have:=O.lt;have:=aV.size;omega) (om aV aD) (bO.a aV cj.out));rw[KU ao.out.2.1 (kA aP.out)] at h;exact h
  have a4:=hid_ λd (o:Below l l d)=>an_ ((bF o (by have:=O.lt;omega)).trans am) ((bF o (by have:=O.lt;omega)).trans aA);have co:Hid (∀d I,Below l l d->(d.setCell ⟨j,3,none⟩ I).cell? w=some (.pointer (some ⟨j,0,none⟩))/\(d.setCell ⟨j,3,none⟩ I).cell? ⟨w.heap.size+1,0,none⟩=some (.slice q s p)):=λd I o=>⟨by rw[cb Q0];exact(a4 d o).1,by rw[cb Q0];exact(a4 d o).2⟩;have HBL:Hid (j<l.heap.size/\w.heap.size+1+1<l.heap.size):=⟨cZ,O.lt⟩;clear bg aD;go_wp2_with fail
  have cl:Hid (∀d,Below l l d->d.cell? ⟨j,3,none⟩=some av/\d.frozen? ⟨j,3,none⟩=false):=λd o=>by
   obtain⟨_,_,_,aN,_,bt,_⟩:=kL (om o aQ.out.2);exact⟨aN,bt⟩
  go_region_held3 (λk=>k.cell? w=some (.pointer (some ⟨j,0,none⟩))/\k.cell? ⟨w.heap.size+1,0,none⟩=some (.slice q s p)) (first|(refine a4 _ ?_;(first|with_reducible exact Below.refl _ _|with_reducible exact Below.drew (Below.refl _ _)|with_reducible exact hkd|with_reducible exact bj))|(with_reducible exact co _ _ hkd)) (first|(go_at_call 155;refine(cc _ (Below.drew (Below.refl _ _))).mono ?_;rintro bB dj ⟨dB,rfl,bD,bj⟩)|(go_at_call 173;refine(ce _ _ bj bD).mono ?_;rintro bB Wd ⟨da,dn,dc,rfl,hfd,hnd,hkd⟩;obtain⟨aN,bt⟩:=cl _ hkd));obtain⟨ae,ax⟩:=ex_ (Wd.setCell ⟨j,3,none⟩ (.slice da dn dc));have bT:fT ae j (.slice X g Y) ad (.slice L f M) (.slice da dn dc):=by rw[<-ax];exact Lq (om hkd aQ.out.2) _
  have aT:∀b aY,b<l.heap.size->b≠j->ae.cell? ⟨b,aY,none⟩=l.cell? ⟨b,aY,none⟩:=λb aY h1 h2=>by rw[<-ax,cb (λe=>h2 e.symm)];exact bF hkd h1
  have dk:=(aT _ _ Wx Q0).trans am;have aa:=(aT _ _ Wx Q0).trans aA;have dl:=(aT _ _ Wx Q0).trans bQ;obtain⟨_,_,b8,_,dC,_,_⟩:=kL bT
  have a1:Hid (bO ae (.slice q s p) (cA (bJ g) f (cH g v first C f r))/\bO ae (.slice da dn dc) (cO f (cA (bJ g) f (cH g v first C f r)))/\aB j w ae):=by
   rw[<-ax];exact⟨rM (bO.a hkd bz.out) az.2,rM hfd (λb hb=>Wy),(aB.b (aQ.out.1.trans (hkd.mono aQ.out.1.size))).a (aB.c _ _)⟩
  have cd:Hid (ae.heap[an]? =some (.deferred (some []))):=by
   show _=_;rw[<-ax,kY Q0];exact(hkd.block an (Array.getElem?_eq_some_iff.1 E).1).trans E
  rw[ax];clear ax aT am aZ cY c0 c2 c1 c3 aA bQ aN bt bD bj hkd hfd;go_wp2_with fail
  have cf:Hid ((ae.setCell ⟨j,2,none⟩ (.slice q s p)).heap[an]? =some (.deferred (some []))):=by
   show _=_;rw[kY Q0];exact cd.out
  have a3:Hid (aB j w (ae.setCell ⟨j,2,none⟩ (.slice q s p))):=a1.out.2.2.a (aB.c _ _);show LeavesInM _ _ _ _ _ _ ([an].map lI) _ _;refine pT w [an] _ Q1 (λdh cD=>?_) λdi hb ay=>?_
  .rw[List.mem_singleton.1 cD];exact⟨Q0,cf.out⟩
  refine⟨.int .i64 ((cH g v first C f r).length:Int),by simp[results,f124,go_sem],?_⟩;have cT:=Lp bT (.slice q s p);exact⟨.slice q s p,.slice da dn dc,rfl,(hb.block j cB).trans cT,um (rM a1.out.1 az.2) ay hb.size,az.1,az.2,um (rM a1.out.2.1 (λb hb=>Wy)) ay hb.size,⟨λn h1 h2=>(a3.out.below n h1 h2).trans (hb.mono h2),le_trans a3.out.size hb.size,λF h1 h2=>(hb.block F h1).trans (a3.out.same F h1 h2)⟩⟩
 intro an p A l cC _ cI E;exact cI.elim
def xG(Bs Bt:Nat):Array Value:=#[.pointer (some ⟨Bs,0,none⟩),.pointer (some ⟨Bt,0,none⟩)]
theorem CP{a:List Prd}{b:List Rul}{c:List Fct}(h:bS a b c=0)(d:List Fct)(s:Int):cH a (ce (bM a b) s) true d c b=cK a (ce (bM a b) s) c b/\cA (bJ a) c (cH a (ce (bM a b) s) true d c b)=bV a b c s:=by
 rw[C0];exact⟨rfl,by rw[bV,if_neg TN]⟩
theorem CT(b:World)(c d:Nat)(g:Value)(f:List Prd)(a:List Rul)(s:Int)(l:bP f a=0)(m:b.cell? c=some g)(o:b.cell? d=some (.int .i64 s))(p:dD b g (bM f a))(q:c<b.heap.size)(r:d<b.heap.size)(n:Nat)(u:n<a.length)(j:Option Addr)(k:Nat)(h:Option Addr)(i:Nat):Calls prog 122 (#[.agg #[.int .i64 a[n].head.pred,.slice j a[n].head.args.length k,.int .i64 a[n].src,.int .i64 a[n].n,.slice h a[n].body.length i]]++xG c d) b λe w=>e=.returned (.bool (ce (bM f a) s a[n]))/\Below b b w:=by
 obtain⟨v,t,e⟩:=fd.1 (gP (f_ (eU l _ (getElem_mem u))).1).1;exact Le b c d v g (bM f a) s a[n] j a[n].head.args.length k h a[n].body.length i e (by rw[(iq l).2];exact t) m o p q r
structure bm (x:World) (B Bs Bt:Nat) (pv rv vs:Value) (ps:List Prd) (rs:List Rul) (s:Int) (u v:Value) (f fr:List Fct):Prop where
 news:fT x B pv rv u v
 preds:bR x pv ps
 rules:ck x rv rs
 facts:bO x u f
 cap:eQ u
 own:∀b,u.ownBlock=some b->b≠B
 new:bO x v fr
 right:bS ps rs f=0
 sm:dU ps
 cs:x.cell? Bs=some vs
 ct:x.cell? Bt=some (.int .i64 s)
 ints:dD x vs (bM ps rs)
 ls:Bs<x.heap.size
 lt:Bt<x.heap.size
theorem LD(n:World)(h j k:Nat)(p q E:Value)(d:List Prd)(g:List Rul)(s:Int)(B C:Value)(f o:List Fct)(b:bm n h j k p q E d g s B C f o):Calls prog 124 #[.pointer (some ⟨h,0,none⟩),.func (.func 122) #[] #[.pointer (some ⟨j,0,none⟩),.pointer (some ⟨k,0,none⟩)],.func (.func 123) #[] #[]] n λe m=>∃l D,e=.returned (.int .i64 ((cK d (ce (bM d g) s) f g).length:Int))/\fT m h p q l D/\bO m l (bV d g f s)/\eQ l/\(∀t,l.ownBlock=some t->t≠h)/\bO m D (cO f (bV d g f s))/\aB h n m:=by
 obtain⟨v,L⟩:=cZ b.right
 have w:=CY n h p q B C 122 (xG j k) 123 #[] #[] d g f o (ce (bM d g) s) true b.news b.preds b.rules b.facts b.cap b.own b.sm v L (enters_of func122 SI rfl) (enters_of func123 SI rfl)
  (λr A u J K F G i=>CT r j k E d g s v ((bF i b.ls).trans b.cs) ((bF i b.lt).trans b.ct) (dD.a i b.ints) (lt_of_lt_of_le b.ls i.size) (lt_of_lt_of_le b.lt i.size) A u J K F G)
  (λr A u c M i=>by
   have e:(#[]++#[Value.agg #[c.rule,c.x,c.y,c.z]]++#[]:Array Value)=#[.agg #[c.rule,c.x,c.y,c.z]]:=rfl;rw[e]
   exact Lf r c.rule c.x c.y c.z)
 obtain⟨H,I⟩:=CP b.right o s;rw[I,H] at w;exact w
theorem LE(u:World)(h m n:Nat)(p q F:Value)(c:List Prd)(d:List Rul)(s:Int)(A B:Value)(j f:List Fct)(b:bm u h m n p q F c d s A B f (cO j f))(J:bS c d j=0)(M:f=bV c d j s):Calls prog 124 #[.pointer (some ⟨h,0,none⟩),.func (.func 122) #[] #[.pointer (some ⟨m,0,none⟩),.pointer (some ⟨n,0,none⟩)],.func (.func 125) #[.pointer (some ⟨h,0,none⟩)] #[]] u λe t=>∃r E,e=.returned (.int .i64 ((jb c d s j f).length:Int))/\fT t h p q r E/\bO t r (bV c d f s)/\eQ r/\(∀C,r.ownBlock=some C->C≠h)/\bO t E (cO f (bV c d f s))/\aB h u t:=by
 obtain⟨v,k⟩:=cZ b.right;have O:=eU v;have N:bW c (cO j f)=0:=pY (eR k).1 (eR k).2.1 (List.Pairwise.filter _ (cG k).sorted) λl g=>kA k l (mem_filter.1 g).1
 have D:=CY u h p q A B 122 (xG m n) 125 #[.pointer (some ⟨h,0,none⟩)] #[] c d f (cO j f) (ce (bM c d) s) false b.news b.preds b.rules b.facts b.cap b.own b.sm v k (enters_of func122 SI rfl) (enters_of func125 SI rfl)
  (λl w o K L G H g=>CT l m n F c d s v ((bF g b.ls).trans b.cs) ((bF g b.lt).trans b.ct) (dD.a g b.ints) (lt_of_lt_of_le b.ls g.size) (lt_of_lt_of_le b.lt g.size) w o K L G H)
  (λl w o i P g=>by
   have e:(#[Value.pointer (some ⟨h,0,none⟩)]++#[Value.agg #[i.rule,i.x,i.y,i.z]]++#[]:Array Value)=#[.pointer (some ⟨h,0,none⟩),.agg #[i.rule,i.x,i.y,i.z]]:=rfl;rw[e,Bool.false_or];obtain⟨Q,R⟩:=iG.1 P
   exact Lc l h w p q A B c d (cO j f) i (bR.a g b.preds) (ck.a g b.rules) (bO.a g b.new) N R.1 (om g b.news) Q o (f_ (O _ (getElem_mem o))).2.1)
 have I:cA (bJ c) f (cH c (ce (bM c d) s) false (cO j f) f d)=bV c d f s:=by rw[M];exact CX J
 rw[I] at D;exact D
def CR:Value->Int
 | .slice _ n _=>n
 |_=>0
def mO(ps:List Prd)(rs:List Rul):Nat:=if bP ps rs≠0 then 0 else dA ps rs (cC (bM ps rs))
noncomputable def rO(ps:List Prd)(B:Nat)(w':World):Nat:=2*nW ps ((w'.cell? ⟨B,2,none⟩).getD undef) w'+if CR ((w'.cell? ⟨B,3,none⟩).getD undef)=0 then 0 else 1
theorem CO{b c:World}{a o:Nat}(d:b.heap[a]? =c.heap[a]?):b.cell? ⟨a,o,none⟩=c.cell? ⟨a,o,none⟩:=by
 unfold World.cell?;rw[d]
theorem CS{a:List Prd}{b:List Rul}(d:bP a b=0)(s:Int):∀(n:Nat) (c f:List Fct),f4 a b s n c f<=n*1000
 |0,_,_=>le_refl _
 |n+1,c,f=>by
  rw[f4]
  split
  .exact zero_le _
  have g:=CS d s n f (bV a b f s)
  have h:(jb a b s c f).length<=1000:=xI d _ _ _ _
  omega
theorem uC{a:List Prd}{b:List Rul}(c:bP a b=0):∀t,dA a b t<=t*2002000
 |0=>le_refl _
 |t+1=>by
  have f:=uC c t
  have d:=CS c (t:Int) (dM+1) (cQ a b t) (bV a b (cQ a b t) (t:Int))
  have g:(cK a (ce (bM a b) (t:Int)) (cQ a b t) b).length<=1000:=by
   rw[<-C0 a _ []]
   exact xI c _ _ _ _
  rw[oW] at d
  rw[dA,kg,oW]
  omega
theorem WG(h:p:=by simpa using this.symm):p:=h
theorem uB{a:List Prd}{b:List Rul}{s:Int}{f:List Fct}(c:bS a b f=0):dw a b s (bV a b f s)=dw a b s f:=by
 cases d:cM a b f s
 .have:=(nv s c).2;rw[d] at this;have e:=WG;rw[<-e]
 exact(me c d).1.symm
theorem uD{a:List Prd}{b:List Rul}{s:Int}{f:List Fct}(c:bS a b f=0)(g:cO f (bV a b f s)=[]):bV a b f s=f/\dw a b s (bV a b f s)=bV a b f s:=by
 have d:=(oj c).1 g;have:=(nv s c).2;rw[d] at this;have e:=WG;exact⟨e.symm,by rw[<-e];exact(oV d).1⟩
structure aW (W4:World) (B:Nat) (pv rv:Value) (ps:List Prd) (rs:List Rul) (s:Int) (F:List Fct) (H:Nat) (u v:Value) (f0 f:List Fct) (hv:Nat) (x:World):Prop where
 news:fT x B pv rv u v
 facts:bO x u f
 cap:eQ u
 own:∀b,u.ownBlock=some b->b≠B
 new:bO x v (cO f0 f)
 keep:aB B W4 x
 r0:bS ps rs f0=0
 once:f=bV ps rs f0 s
 fin:dw ps rs s f=dw ps rs s F
 sum:hv+f4 ps rs s (dM+1) f0 f=H
theorem aW.a{l:World}{h:Nat}{p r:Value}{b:List Prd}{q:List Rul}{s:Int}{j:List Fct}{k:Nat}{i t:Value}{c f:List Fct}{o:Nat}{g:World}(d:aW l h p r b q s j k i t c f o g):rO b h g=2*(dM-eS b f)+if(cO c f).length=0 then 0 else 1:=by
 obtain⟨_,_,m,n,_⟩:=kL d.news;obtain⟨u,v,rfl,_⟩:=d.new;unfold rO;rw[m,n];show 2*nW b i g+(if((cO c f).length:Int)=0 then 0 else 1)=_;rw[nX d.facts];split<;>split<;>omega
theorem Lh{l:World}{d:Nat}{n o:Value}{c:List Prd}{g:List Rul}{s:Int}{j:List Fct}{k:Nat}{x z y A:Value}{h f:List Fct}{v w:Nat}{p q:World}(r:aW l d n o c g s j k x z h f v p)(t:cO h f≠[])(m:aW l d n o c g s j k y A f (bV c g f s) w q):rO c d q<rO c d p:=by
 rw[r.a,m.a];have b:=m.r0;have u:(cO h f).length≠0:=λe=>t (List.eq_nil_of_length_eq_zero e);have B:=ke (cZ b).2;have C:=ke (cZ (jK s b)).2;rw[if_neg u];cases i:cM c g f s
 .have e:=uD b ((oj b).2 i);rw[(oj b).2 i,if_pos length_nil,e.1];omega
 have:=nY b i;split<;>omega
theorem KM(m:World)(M N:Value)(c:List Prd)(d:List Rul)(al:bR m M c)(A:ck m N d)(X:dU c):Calls prog 76 #[.agg #[M,N]] m λe G=>∃n,e=.returned (.tuple #[n,.int .i64 (mO c d:Int),.int .i64 (bP c d)])/\bO G n (iV c d)/\eQ n/\Below m m G:=by
 have aH:Hid (∀j,Below m m j->Calls prog 28 #[.agg #[M,N]] j λe G=>(∃o,e=.returned (.tuple #[o,.int .i64 (bP c d)])/\(bP c d≠0->o=.slice none 0 0)/\(bP c d=0->dD G o (bM c d)))/\Below j j G):=λj B=>(pS j M N c d (bR.a B al) (ck.a B A) X).mono λ_ _ ⟨⟨o,D,E,ah⟩,ai⟩=>⟨⟨o,D,E,λl=>ah _ (iq l).1 l⟩,ai⟩;have ab:Hid (bR m M c/\ck m N d/\dU c):=⟨al,A,X⟩;obtain⟨s,t,rfl,_⟩:=al;obtain⟨u,v,rfl,_⟩:=A;obtain⟨P,hW1⟩:=ex_ (m.alloc (.cells #[.slice s c t,.slice u d v] 30));have T:Below m m P:=VO;have av:P.cell? m=some (.slice s c t)/\P.cell? ⟨m,1,none⟩=some (.slice u d v)/\m.heap.size<P.heap.size:=Wz;by_cases hpe:bP c d=0
 .have a8:=hid_ hpe;go_enter func76,ntmps76;go_wp2_with fail;clear hW1;refine(aH _ T).mono ?_;rintro e g ⟨⟨bL,rfl,_,aS⟩,W⟩;have y:=bt_ T W;have am:=aS hpe;obtain⟨Y,Z,rfl,_⟩:=id am;obtain⟨aN,bd,aU⟩:=jL W av;rw[hpe];obtain⟨x,hW3⟩:=ex_ ((g.alloc (.cells #[.slice Y (bM c d).length Z] 68)).alloc (.cells #[.slice s c t,.slice u d v,.slice none 0 0,.slice none 0 0] 179));have aM:Below g g x:=WF;have bf:=(bF aM aU).trans aN;have bb:x.cell? g=some (.slice Y (bM c d).length Z):=Wf
  have bc:fT x (g.heap.size+1) (.slice s c t) (.slice u d v) (.slice none 0 0) (.slice none 0 0):=by
   have l:=World.alloc_heap_new (g.alloc (.cells #[.slice Y (bM c d).length Z] 68)) (.cells #[.slice s c t,.slice u d v,.slice none 0 0,.slice none 0 0] 179);rw[World.size_alloc] at l;show x.heap[g.heap.size+1]? =_;rw[<-hW3];exact l
  have bD:=(gN (gO hpe).1).1;have bK:x.heap.size=g.heap.size+1+1:=We;have a7:=hid_ λj (B:Below g g j)=>an_ (bR.a (y.trans (B.mono y.size)) ab.out.1) (an_ (ck.a (y.trans (B.mono y.size)) ab.out.2.1) (dD.a B am));have aw:=hid_ λj (B:aB (g.heap.size+1) x j)=>aM.trans (B.below _ Q0 Q0)
  have ay:Hid (dA c d c.length=mO c d/\cQ c d c.length=iV c d):=by
   obtain⟨I,ag⟩:=K8 hpe (vL hpe);refine⟨?_,?_⟩
   .rw[I,mO,if_neg Ui]
   rw[ag,iV,if_neg Ui];rfl
  have az:Hid (∀f,f<=5->dA c d f<=10010000):=λf bq=>le_trans (uC hpe f) Q0;have aF:=hid_ (λf=>kF hpe f);go_wp2_with fail;clear hW3 aN bd bf aS am hpe;go_loopw [8,26] (λaj an wr=>∃(f:Nat) (n o:Value),f<=c.length/\an=.int .i64 f/\aj=.int .i64 (dA c d f:Int)/\Hid (fT wr (g.heap.size+1) (.slice s c t) (.slice u d v) n o/\bO wr n (cQ c d f)/\eQ n/\(∀k,n.ownBlock=some k->k≠g.heap.size+1)/\(∃K,bO wr o K)/\aB (g.heap.size+1) x wr)) (λ_ an _=>c.length-(intOf an).toNat)
  case atStart=>exact⟨0,_,_,zero_le _,rfl,rfl,bc,ie _,qQ,(λk bj=>by cases bj),⟨[],ie _⟩,aB.b (Below.refl _ _)⟩
  obtain⟨f,n,o,bq,rfl,rfl,L⟩:=hrel;by_cases bA:f<c.length
  .have bG:(f:Int)<(c.length:Int):=Q0;obtain⟨q,V⟩:=ex_ (wr.alloc (.cells #[f] 3));have U:Below wr wr q:=by rw[<-V];exact bH _ _
   obtain⟨H,aR⟩:=ex_ wr.heap.size;have a9:q.cell? H=some (.int .i64 (f:Int)):=by rw[<-V,<-aR];simp[go_sem]
   have bv:H<q.heap.size:=by rw[<-V,<-aR];simp
   have bE:g.heap.size+1+1<=H:=by have:=L.out.2.2.2.2.2.size;omega
   have aV:=L.out.2.2.2.2.2.a (aB.b U)
   have aG:Hid (∀j C J i K,aB (g.heap.size+1) q j->fT j (g.heap.size+1) (.slice s c t) (.slice u d v) C J->bO j C i->eQ C->(∀k,C.ownBlock=some k->k≠g.heap.size+1)->bO j J K->bS c d i=0->bm j (g.heap.size+1) g H (.slice s c t) (.slice u d v) (.slice Y (bM c d).length Z) c d (f:Int) C J i K):=λj C J i K ak X bo bk bp p A=>by
    have ao:=aV.a ak;obtain⟨bs,bt,bu⟩:=a7 j (aw j ao);have bl:∀k F,k<x.heap.size->k≠g.heap.size+1->j.cell? ⟨k,F,none⟩=x.cell? ⟨k,F,none⟩:=λk F D E=>CO (ao.same k D E);have bn:∀k F,k<q.heap.size->k≠g.heap.size+1->j.cell? ⟨k,F,none⟩=q.cell? ⟨k,F,none⟩:=λk F D E=>CO (ak.same k D E);exact⟨X,bs,bt,bo,bk,bp,p,A,ab.out.2.2,(bl _ _ Q0 Q0).trans bb,(bn _ _ bv Q0).trans a9,bu,by have:=ao.size;omega,by have:=ak.size;omega⟩
   obtain⟨Q,R,S,ae,⟨aQ,af⟩,aL⟩:=L.out;have aI:=LD q (g.heap.size+1) g H _ _ _ c d (f:Int) n o _ aQ (aG q n o _ aQ (aB.b (Below.refl _ _)) (om U Q) (bO.a U R) S ae (bO.a U af) (aF f));have bz:(0:Int)<=(dA c d f:Int)/\(dA c d f:Int)<=10010000:=⟨Q0,by have:=az f Q0;omega⟩;have ac:Hid (dA c d (f+1)=dA c d f+kg c d (f:Int) (cQ c d f)/\cQ c d (f+1)=dw c d (f:Int) (cQ c d f)):=⟨rfl,rfl⟩;have ad:=hid_ (az (f+1) Q0);have aE:=hid_ (aF f);clear L Q R S ae af;generalize cQ c d f=w at*;go_wp2_with fail;refine aI.mono ?_;rintro e bx ⟨C,J,rfl,D,E,ah,ai,bh,bi⟩;have aJ:Hid ((cK c (ce (bM c d) (f:Int)) w d).length+f4 c d (f:Int) (dM+1) w (bV c d w (f:Int))=kg c d (f:Int) w):=rfl;generalize(cK c (ce (bM c d) (f:Int)) w d).length=ar at*;have bI:(0:Int)<=(ar:Int)/\(ar:Int)<=10010000:=⟨Q0,by have:=aJ.out;have:=ac.out.1;have:=ad.out;omega⟩;clear V aI;go_wp2_with fail;go_loopw [8] (λaj bw=>∃(p:Nat) (O au:Value) (z i:List Fct),aj=.int .i64 (p:Int)/\Hid (aW q (g.heap.size+1) (.slice s c t) (.slice u d v) c d (f:Int) w (dA c d (f+1)) O au z i p bw)) (λ_ G=>rO c (g.heap.size+1) G)
   case atStart=>exact⟨dA c d f+ar,C,J,w,_,Rv,⟨D,E,ah,ai,bh,bi,aE.out,rfl,uB aE.out,by rw[ac.out.1,<-aJ.out];omega⟩⟩
   obtain⟨p,O,au,z,i,rfl,h⟩:=hrel;obtain⟨_,_,aO,be,_⟩:=kL h.out.news;have bJ:(0:Int)<=(p:Int)/\(p:Int)<=10010000:=⟨Q0,by have:=h.out.sum;have:=ad.out;omega⟩;by_cases r:cO z i=[]
   .obtain⟨ap,aq,aT,_⟩:=h.out.new;rw[r] at aT;obtain rfl:au=.slice ap 0 aq:=aT
    have aD:Hid (i=dw c d (f:Int) w/\p=dA c d (f+1)):=by
     have I:=h.out.once;have bg:=h.out.sum;have aP:=h.out.fin;rw[rN r] at bg;rw[I] at r;have ag:=uD h.out.r0 r;rw[I] at aP⊢;exact⟨ag.2.symm.trans aP,Q0⟩
    clear r;go_wp2_with fail;go_roundw
    case rel=>
     refine⟨f+1,O,.slice ap 0 aq,Q0,Rv,by rw[aD.out.2],?_⟩;have l:=h.out;exact⟨l.news,by rw[ac.out.2,<-aD.out.1];exact l.facts,l.cap,l.own,⟨_,l.new⟩,aV.a l.keep⟩
    exact S6
   have bC:=List.length_pos_iff.2 r;have a6:Hid (cO z i≠[]):=r;obtain⟨ap,aq,rfl,_⟩:=id h.out.new;have aK:=LE wr (g.heap.size+1) g H _ _ _ c d (f:Int) O _ z i (aG wr O _ i _ h.out.keep h.out.news h.out.facts h.out.cap h.out.own h.out.new (by rw[h.out.once];exact jK _ h.out.r0)) h.out.r0 h.out.once
   have aC:Hid (f4 c d (f:Int) (dM+1) z i=(jb c d (f:Int) z i).length+f4 c d (f:Int) (dM+1) i (bV c d i (f:Int))):=by
    have I:=h.out.once;show _=_;rw[I] at r⊢;exact o6 h.out.r0 r
   clear r;go_wp2_with fail;refine aK.mono ?_;rintro e ba ⟨a3,a4,rfl,aX,aY,aZ,a0,a1,a2⟩;generalize(jb c d (f:Int) z i).length=aa at*;have aU:(0:Int)<=(aa:Int)/\(p:Int)+(aa:Int)<=10010000:=⟨Q0,by have:=h.out.sum;have:=ad.out;have:=aC.out;omega⟩
   have aA:Hid (aW q (g.heap.size+1) (.slice s c t) (.slice u d v) c d (f:Int) w (dA c d (f+1)) a3 a4 i (bV c d i (f:Int)) (p+aa) ba):=by
    have l:=h.out;have A:bS c d i=0:=by rw[l.once];exact jK _ l.r0
    exact⟨aX,aY,aZ,a0,a1,l.keep.a a2,A,rfl,(uB A).trans l.fin,by have:=l.sum;have:=aC.out;omega⟩
   clear aX aY aZ a0 a1 a2 aO be aK;go_wp2_with fail;go_roundw
   case rel=>exact⟨p+aa,a3,a4,i,_,Rv,aA⟩
   exact Lh h a6 aA.out
  obtain rfl:f=c.length:=Q0;obtain⟨Q,R,S,ae,af,aL⟩:=L.out;obtain⟨_,_,aO,_⟩:=kL Q;have a5:=hid_ (y.trans ((aw wr aL).mono y.size));go_wp2_with fail;refine bodyPost_ret (v:=.tuple #[n,.int .i64 (dA c d c.length:Int),.int .i64 0]) (by simp[results,results76,go_sem]) rfl ?_;exact⟨n,by rw[ay.out.1,a8.out],by rw[<-ay.out.2];exact R,S,a5.out⟩
 have bB:(bP c d==0)=false:=SD;have ax:Hid (mO c d=0/\iV c d=[]):=⟨by rw[mO,if_pos hpe],by rw[iV,if_pos hpe]⟩;go_enter func76,ntmps76;go_wp2_with fail;refine(aH _ T).mono ?_;rintro e g ⟨⟨bN,rfl,br,_⟩,W⟩;obtain rfl:=br hpe;have y:=bt_ T W;clear hW1 av;go_wp2_with fail;refine bodyPost_ret (v:=.tuple #[.slice none 0 0,.int .i64 0,.int .i64 (bP c d)]) (by simp[results,results76,go_sem]) rfl ?_;exact⟨.slice none 0 0,by rw[ax.out.1];rfl,by rw[ax.out.2];exact ie _,qQ,y.alloc y.size _⟩
open Go.ChangeShapes Go.WideShapes Go.ChangeAt
theorem C4{c:Program}{h:Code}{d:Exit->Act->World->Prop}{g:Act}{a:World}(b:World->Prop)(j:b a)(i:∀f,b f->Code.wp c h d g f):Code.wp c h d g a:=i a j
def xF:Value->Nat
 | .bool true=>1
 |_=>0
noncomputable def o8(ps:List Prd)(u fr a:Value)(x:World):Nat:=2*nW ps u x+max (xF a) (if CR fr=0 then 0 else 1)
structure aN (W2:World) (ps:List Prd) (rs:List Rul) (s:Int) (F:List Fct) (H0 H:Nat) (b:Bool) (u vf:Value) (f0 f fr:List Fct) (hv:Nat) (x:World):Prop where
 bel:Below W2 W2 x
 fac:bO x u f
 new:bO x vf fr
 rig:bS ps rs f=0
 one:b=true->f=F/\fr=[]/\hv=H0
 two:b=false->bS ps rs f0=0/\f=bV ps rs f0 s/\fr=cO f0 f/\dw ps rs s f=dw ps rs s F/\hv+f4 ps rs s (dM+1) f0 f=H
theorem aN.b{q:World}{a:List Prd}{c:List Rul}{s:Int}{k:List Fct}{o l:Nat}{d:Bool}{w x:Value}{m f g:List Fct}{p:Nat}{y:World}(h:aN q a c s k o l d w x m f g p y)(v:l=o+kg a c s k)(hc:d=true\/g≠[]):cA (bJ a) f (cH a (ce (bM a c) s) d g f c)=bV a c f s/\p+(cH a (ce (bM a c) s) d g f c).length+f4 a c s (dM+1) f (bV a c f s)=l/\dw a c s (bV a c f s)=dw a c s k:=by
 cases d
 .obtain⟨i,j,n,u,z⟩:=h.two rfl;rcases hc with hc|hc
  .cases hc
  rw[n] at hc⊢;rw[j] at hc;have e:=o6 i hc;rw[<-j] at e;refine⟨by rw[j];exact CX i,?_,(uB h.rig).trans u⟩;have:(jb a c s m f).length=(cH a (ce (bM a c) s) false (cO m f) f c).length:=rfl;omega
 obtain⟨i,j,n⟩:=h.one rfl;obtain⟨r,t⟩:=CP h.rig g s;refine⟨t,?_,by rw[uB h.rig,i]⟩;rw[r,i,n,v,kg];omega
theorem aN.a{n:World}{d:List Prd}{t:List Rul}{s:Int}{k:List Fct}{m l:Nat}{b:Bool}{h i:Value}{q f c:List Fct}{r:Nat}{j:World}(g:aN n d t s k m l b h i q f c r j):o8 d h i (.bool b) j=2*(dM-eS d f)+max (if b then 1 else 0) (if c.length=0 then 0 else 1):=by
 obtain⟨u,v,rfl,_⟩:=g.new;unfold o8;rw[nX g.fac];show 2*_+max (xF (.bool b)) (if(c.length:Int)=0 then 0 else 1)=_;have o:xF (.bool b)=if b then 1 else 0:=by cases b<;>rfl
 have p:(if(c.length:Int)=0 then 0 else 1)=(if c.length=0 then 0 else 1):=by split<;>split<;>omega
 rw[o,p]
theorem Lz{m:World}{b:List Prd}{d:List Rul}{s:Int}{j:List Fct}{l k:Nat}{g:Bool}{o q p r:Value}{v f h:List Fct}{y z:Nat}{t u:World}(n:aN m b d s j l k g o q v f h y t)(hc:g=true\/h≠[])(w:aN m b d s j l k false p r f (bV b d f s) (cO f (bV b d f s)) z u):o8 b p r (.bool false) u<o8 b o q (.bool g) t:=by
 rw[n.a,w.a];have c:=n.rig
 have x:max (if g=true then 1 else 0) (if h.length=0 then 0 else 1)=1:=by
  rcases hc with rfl|hc
  .rw[if_pos rfl];split<;>rfl
  rw[if_neg (λe=>hc (List.eq_nil_of_length_eq_zero e))];split<;>rfl
 have A:=ke (cZ c).2;have B:=ke (cZ (jK s c)).2;rw[x,if_neg Q1];cases i:cM b d f s
 .have e:=uD c ((oj c).2 i);rw[(oj c).2 i,if_pos length_nil,e.1];omega
 have:=nY c i;have:(max 0 (if(cO f (bV b d f s)).length=0 then 0 else 1))<=1:=by split<;>omega
 omega
theorem KR{f a:List Fct}{k:Nat}(b:k<a.length):cO f (a.take (k+1))=cO f (a.take k)++if cd f (bL a[k])=some a[k].val then[] else[a[k]]:=by
 unfold cO;rw[List.take_add_one,List.getElem?_eq_getElem b,Option.toList_some,List.filter_append];congr 1;by_cases e:cd f (bL a[k])=some a[k].val
 .rw[if_pos e];simp[e]
 rw[if_neg e];simp[e]
theorem aaX(h:p:=by rw[HPQ.out,length_append,List.length_singleton];exact congrArg (Value.int .i64) Q0):p:=h
theorem afm(h:p:=by
 go_wp2_with(at_builtin;refine jo _ rfl _ _ rfl W5.heap.size v5 (cO f (G.take k)) [⟨yp,ya,yb,yv⟩] (cg HOW (bH _ _)) rfl _ rfl (kB (heap_alloc_new _ _)) (by have:=HFL.out;simp;omega) RD ?_;intro v6 w6 hown6 hgr6;have hx6:Below W5 W5 w6:=gY (hb56.alloc hsz _) (cg HOW (bH _ _)) hgr6 RD)
 go_roundw
 case rel=>exact⟨k+1,v6,rfl,Q0,Rv,by rw[HFT.out];exact hown6,hx6⟩
 exact S6):p:=h
theorem Lx(q:World)(N W:Value)(g:List Prd)(c:List Rul)(bK:bR q N g)(hr:ck q W c)(S:bP g c=0):Calls prog 46 #[.agg #[N,W]] q λe p=>∃o,e=.returned (.tuple #[o,.int .i64 (dA g c (cC (bM g c)):Int)])/\bO p o (dg g c)/\Below q q p:=by
 obtain⟨z1,z2,z3⟩:=gN (gO S).1;obtain⟨dk,eG⟩:=iq S;have hre:=eU S;have ed:Hid (∀i,Below q q i->Calls prog 44 #[.agg #[N,W]] i λe p=>(∃m,e=.returned m/\dD p m (bM g c))/\Below i i p):=λi hx=>(pX i N W g c (bR.a hx bK) (ck.a hx hr) z1 z2 z3).mono λ_ _ ⟨⟨m,H,aw⟩,c2⟩=>⟨⟨m,H,aw _ dk⟩,c2⟩;have ac:=hid_ λi (hx:Below q q i)=>an_ (bR.a hx bK) (ck.a hx hr);have dE:=hid_ λi o f d (hn:d<c.length)(ah:bS g c f=0)(ai:bO i o f)(hx:Below q q i)=>v_ i N W o g c f d (ac i hx).1 (ac i hx).2 ai hre (cZ ah).2 hn;have dT:=hid_ λi o f d (hn:d<c.length) m (v:cT m=true)(ah:bS g c f=0)(ai:bO i o f)(hx:Below q q i)=>tE i N W o g c f d m (ac i hx).1 (ac i hx).2 ai hre (cZ ah).2 hn v;have dV:=hid_ (λi o u d hn m eO v ah ai hx=>Lb i N W o g c u d m eO (ac i hx).1 (ac i hx).2 ai S ah hn v);have dC:Hid (∀i o f (n:Fct),bS g c f=0->cw g n=true->bO i o f->Below q q i->Calls prog 98 #[N,o,.agg #[n.pred,n.a,n.b,n.val]] i λe p=>∃aS,e=.returned (.tuple #[aS,.bool (dR (bJ g) n f)])/\bO p aS (cy (bJ g) n f)/\fW i aS/\Below i i p):=λi o f n ah bT ai hx=>vR i N o g f n.pred n.a n.b n.val (ac i hx).1 ai (cZ ah).2 bT;have cE:=hid_ hre
 have d2:Hid (∀r∈c,∃e:Nat,r.head.pred=(e:Int)/\e<(bM g c).length):=λr hr'=>by
  exact aaw
 have d6:Hid (∀i d,(hn:d<c.length)->Below q q i->∃rb ro rc,W=.slice (some ⟨rb,ro,none⟩) c rc/\rb<q.heap.size/\i.cell? ⟨rb,ro+d*5,none⟩=some (.int .i64 c[d].head.pred)):=λi d hn hx=>by
  exact Z7
 have cx:=hid_ (le_trans (vL S) z1);have dH:Hid (∀j,j<=5->dA g c j<=10010000):=λj eB=>le_trans (uC S j) Q0;have bg:=hid_ S;obtain⟨U,V,rfl,_⟩:=bK;obtain⟨ba,rc,rfl,_⟩:=hr;rw[dg];clear dk eG z1 z2 z3 S hre;obtain⟨aV,hW1⟩:=ex_ (q.alloc (.cells #[.slice U g V,.slice ba c rc] 30));have cY:Below q q aV:=VO;have dB:aV.cell? q=some (.slice U g V)/\aV.cell? ⟨q,1,none⟩=some (.slice ba c rc)/\q.heap.size<aV.heap.size:=Wz;go_enter func46,ntmps46;go_wp2_with fail;clear hW1;refine(ed _ cY).mono ?_;rintro e R ⟨⟨e9,rfl,de⟩,c5⟩;have aC:=bt_ cY c5;have b8:=jL c5 dB;have cK:=li_ de;obtain⟨eP,eQ,rfl,_⟩:=de;go_wp2_with fail;go_loopw [5,6,7] (λaM ag F wr=>∃(j:Nat) (o:Value),o=aM/\ag=.int .i64 (dA g c j:Int)/\j<=cC (bM g c)/\F=.int .i64 j/\Below R R wr/\Hid (bO wr o (cQ g c j))) (λ_ _ F _=>cC (bM g c)-(intOf F).toNat)
 case atStart=>exact⟨0,_,rfl,rfl,zero_le _,rfl,Below.refl _ _,ie _⟩
 obtain⟨j,o,rfl,rfl,eB,rfl,a1,bD⟩:=hrel;go_wp2_with fail;refine(wT _ _ _ (cK _ a1)).mono ?_;rintro e ej ⟨rfl,rfl⟩;by_cases e1:j<cC (bM g c)
 .have e2:(j:Int)<=(cC (bM g c):Int)-1:=Q0;have cR:Hid (dA g c (j+1)=dA g c j+kg g c (j:Int) (cQ g c j)/\cQ g c (j+1)=dw g c (j:Int) (cQ g c j)):=⟨rfl,rfl⟩;have dS:=hid_ (dH (j+1) (by have:=cx.out;omega));have d7:=hid_ (kF bg j);generalize et:cQ g c j=aq at*;clear et;have cP:Hid (aN R g c (j:Int) aq (dA g c j) (dA g c (j+1)) true o (.slice none 0 0) [] aq [] (dA g c j) ej):=⟨a1,bD.out,ie _,d7.out,λ_=>⟨rfl,rfl,rfl⟩,λh=>Rm⟩;go_wp2_with fail;go_loopw [5,6,8,9] (λaM ag aT bs wr=>∃(w:Bool) (o m:Value) (bt f u:List Fct) (v:Nat),o=aM/\m=aT/\ag=.int .i64 (v:Int)/\bs=.bool w/\Hid (aN R g c (j:Int) aq (dA g c j) (dA g c (j+1)) w o m bt f u v wr)) (λaM _ aT bs wr=>o8 g aM aT bs wr)
  case atStart=>exact⟨true,o,_,[],aq,[],dA g c j,rfl,rfl,rfl,rfl,cP⟩
  clear cP bD a1;obtain⟨w,o,m,bt,f,u,v,rfl,rfl,rfl,rfl,D⟩:=hrel;obtain⟨b0,b1,eD,_⟩:=id D.out.new;subst eD;by_cases ak:w=true\/u≠[]
  .obtain⟨c0,aX,c1⟩:=D.out.b cR.out.1 ak;have cc:=hid_ c0;have cf:=hid_ aX;have dG:=hid_ c1;have cn:=hid_ ak;have ab:=hid_ λi (hx:Below wr wr i)=>D.out.bel.trans (hx.mono D.out.bel.size);have aF:=lf_ D.out.fac;have cj:=lf_ D.out.new;have ad:=hid_ D.out.rig
   have bf:Hid (w=false->bW g u=0/\∀r∈c,ce (bM g c) (j:Int) r=true->∀m,cT m=true->ol (bM g c) (j:Int) u r m=fZ u r m):=λhb=>by
    obtain⟨bu,aY,aZ,_⟩:=D.out.two hb;have aj:=(cZ D.out.rig).2;have ez:Lev g c (j:Int) bt f:=by rw[aY];exact Lev.b _ bu
    refine⟨?_,λr hr C m v=>?_⟩
    .rw[aZ];exact pY (eR aj).1 (eR aj).2.1 (List.Pairwise.filter _ (cG aj).sorted) λn bT=>kA aj n (mem_filter.1 bT).1
    rw[aZ];exact Ld ez hr (px.1 C) v
   have dI:Hid (∀d,(cH g (ce (bM g c) (j:Int)) w u f (c.take d)).length<=(cH g (ce (bM g c) (j:Int)) w u f c).length):=λd=>uF _ _ _ _ _ _ _;have cW:Hid (∀i∈cH g (ce (bM g c) (j:Int)) w u f c,cw g i=true):=CZ bg (cZ D.out.rig).2 _ _ _
   have da:w=false->0<u.length:=λhb=>by
    rcases ak with h|h
    .rw[hb] at h;cases h
    exact List.length_pos_iff.2 h
   have dN:Hid (bO wr o (cA (bJ g) f (cH g (ce (bM g c) (j:Int)) w u f (c.take 0)))):=D.out.fac;clear c0 aX c1;have cv:=hid_ λaS aU eC n (h:aN R g c (j:Int) aq (dA g c j) (dA g c (j+1)) false aS aU f (bV g c f (j:Int)) (cO f (bV g c f (j:Int))) eC n)=>Lz D cn h;obtain⟨t,az⟩:∃t:List Rul->List Fct,t=λeF=>cH g (ce (bM g c) (j:Int)) w u f eF:=⟨_,rfl⟩;obtain⟨A,ay⟩:∃A:Rul->Int->Nat->List Fct,A=λr d l=>gR g w u f r d l:=⟨_,rfl⟩;obtain⟨P,a0⟩:∃P:Rul->ae->Bool,P=λr m=>(w||fZ u r m):=⟨_,rfl⟩
   have af:Hid (t (c.take 0)=[]/\t (c.take c)=t c/\cA (bJ g) f (t c)=bV g c f (j:Int)/\v+(t c).length+f4 g c (j:Int) (dM+1) f (bV g c f (j:Int))=dA g c (j+1)):=by
    rw[az];exact⟨rfl,by rw[List.take_length],cc.out,cf.out⟩
   have ef:Hid (∀d,(hn:d<c.length)->t (c.take (d+1))=t (c.take d)++if ce (bM g c) (j:Int) c[d] then A c[d] d (bI f c[d] d).length else[]):=λd hn=>by
    rw[az,ay];show cH _ _ _ _ _ _=cH _ _ _ _ _ _++if _ then gR _ _ _ _ _ _ _ else[];rw[xJ hn,<-uE]
   have d3:Hid (∀r d,A r d 0=[]):=λr d=>by rw[ay];exact CW _ _ _ _ _ _
   have d4:Hid (∀r d l,(bN:l<(bI f r d).length)->A r d (l+1)=A r d l++if P r (bI f r d)[l].a then[co g f r (bI f r d)[l].a] else[]):=λr d l bN=>by rw[ay,a0];exact CV bN
   have dY:Hid (∀d,(hn:d<c.length)->ce (bM g c) (j:Int) c[d]=true->∀l,(t (c.take d)).length+(A c[d] d l).length<=(t c).length):=λd hn C l=>by
    rw[az,ay];have H:=uF g (ce (bM g c) (j:Int)) w u f c (d+1);rw[xJ hn,if_pos C,length_append] at H;have aw:=CU g w u f c[d] d l;show(cH _ _ _ _ _ _).length+(gR _ _ _ _ _ _ _).length<=(cH _ _ _ _ _ _).length;omega
   have eV:Hid (∀d,(t (c.take d)).length<=(t c).length):=λd=>by rw[az];exact uF _ _ _ _ _ _ _
   have d9:Hid (∀d,(hn:d<c.length)->∀l,bS g c (cA (bJ g) f (t (c.take d)++A c[d] d l))=0):=λd hn l=>by
    have aj:=(cZ ad.out).2;refine A9 bg (lK aj λi hx=>?_);rw[az,ay] at hx;rcases List.mem_append.1 hx with hx|hx
    .refine cW i ?_;obtain⟨r,hr,hx⟩:=List.mem_flatMap.1 hx;exact List.mem_flatMap.2 ⟨r,List.mem_of_mem_take hr,hx⟩
    obtain⟨e8,a6,rfl⟩:=mem_map.1 hx;exact kZ (cE _ (getElem_mem hn)) aj (iG.1 (List.mem_of_mem_take (mem_filter.1 a6).1)).2.1
   obtain⟨aH,c3⟩:∃aH:Prop,Hid (aH=(w=true)):=⟨_,rfl⟩;obtain⟨aI,c4⟩:∃aI:Prop,Hid (aI=(w=false)):=⟨_,rfl⟩;have d0:Hid (aH->∀r m,P r m=true):=λh r m=>by rw[c3.out] at h;rw[a0,h];rfl
   have ct:Hid (aI->∀d,(hn:d<c.length)->ce (bM g c) (j:Int) c[d]=true->∀i m,cT m=true->Below wr wr i->Calls prog 96 #[.agg #[.slice U g V,.slice ba c rc],.agg #[d,m.x,m.y,m.z],j,.slice b0 u b1] i λe p=>e=.returned (.bool (P c[d] m))/\Below i i p):=λh d hn C i m v hx=>by
    rw[c4.out] at h;have H:=dV i (.slice b0 u b1) u d hn m (j:Int) v (bf h).1 (cj i hx) (aC.trans ((ab i hx).mono aC.size));rw[(bf h).2 c[d] (getElem_mem hn) C m v] at H;rw[a0,h];exact H
   clear az ay a0 cc cf dI cW dN bf cn ak;obtain⟨B,bz⟩:∃B,B=wr:=⟨_,rfl⟩;rw[<-bz] at ab aF cj cv ct⊢;have ee:Hid (Below B B wr):=by rw[bz];exact Below.refl _ _
   have be:=hid_ (λi hx=>aC.trans ((ab i hx).mono aC.size));clear D bz ee;cases w
   case' false=>have e4:(0:Int)<(u.length:Int):=by have:=da rfl;omega
   all_goals
    clear da;go_wp2_with fail;go_loopw [6,10,11] (λag bx F wr=>∃(d:Nat) (aa:Value),aa=bx/\d<=c.length/\F=.int .i64 d/\ag=.int .i64 ((v+(t (c.take d)).length:Nat):Int)/\Hid (bO wr aa (cA (bJ g) f (t (c.take d)))/\Below B B wr)) (λ_ _ F _=>c.length-(intOf F).toNat)
    case atStart=>exact⟨0,o,rfl,zero_le _,rfl,by rw[af.out.1];rfl,by rw[af.out.1];exact⟨aF _ (Below.refl _ _),Below.refl _ _⟩⟩
    obtain⟨d,aa,rfl,hn,rfl,rfl,aB⟩:=hrel;have K:=aB.out.2;have bU:=be _ K;obtain⟨au,av,ev⟩:=jL (ab _ K) b8;by_cases L:d<c.length
    .obtain⟨rb,ro,eN,dd,e5,dp⟩:=d6 wr d L bU;obtain⟨rfl,rfl⟩:ba=some ⟨rb,ro,none⟩/\rc=eN:=by simpa using dd
     clear dd;obtain⟨e,a5,c8⟩:=d2 c[d] (getElem_mem L);rw[a5] at dp;obtain⟨dm,dn,eH,hlv,e0,l0⟩:=cN (cK wr (ab _ K)) c8;obtain⟨rfl,rfl⟩:eP=some ⟨dm,dn,none⟩/\eQ=eH:=Vk;have dj:wr.cell? ⟨dm,dn+e,none⟩=some (.int .i64 ((bM g c)[e]:Int)):=Vl;clear hlv l0
     have a2:(bX (bM g c) c[d].head.pred.toNat:Int)=((bM g c)[e]:Int):=by
      rw[a5,Int.toNat_natCast];unfold bX;simp[c8]
     have eY:(e:Int)<((bM g c).length:Int):=Q0;have e3:(d:Int)<(c.length:Int):=Q0;have ar:=ef d L;cases C:ce (bM g c) (j:Int) c[d]
     .have bQ:(((bM g c)[e]:Int)==(j:Int))=false:=by
       unfold ce at C;rw[a2] at C;simpa using C
      rw[C,if_neg Q1,append_nil] at ar;have aG:=hid_ ar;clear a2 a5 C ar;go_wp2_with fail;refine⟨⟨d+1,aa,rfl,Q0,Rv,by rw[aG.out],by rw[aG.out];exact aB⟩,S6⟩
     have bQ:(((bM g c)[e]:Int)==(j:Int))=true:=by
      unfold ce at C;rw[a2] at C;simpa using C
     have a6:=by simpa using bQ
     rw[a6] at dj;rw[C,if_pos rfl] at ar;have aG:=hid_ ar;have b9:=dE wr o f d L ad (aF _ K) bU;have cF:=d9 d L;have cu:=dY d L C
     have dQ:Hid (∀i,∀m,cT m=true->cS f m c[d].body=true->Below B B i->Calls prog 97 #[.agg #[.slice U g V,.slice (some ⟨rb,ro,none⟩) c rc],o,d,.agg #[m.x,m.y,m.z]] i λe p=>e=.returned (.tuple #[.bool true,.agg #[.int .i64 (co g f c[d] m).pred,.int .i64 (co g f c[d] m).a,.int .i64 (co g f c[d] m).b,.int .i64 (co g f c[d] m).val]])/\Below i i p):=λi m v c6 hx=>by
      have h:=dT i o f d L m v ad (aF i hx) (be i hx);rw[c6,show dl g f c[d] m=co g f c[d] m by rw[dl,if_pos c6]] at h;exact h
     have dU:=hid_ (λhb=>ct hb d L C);have dK:=hid_ λm (v:cT m=true)=>kZ (cE _ (getElem_mem L)) (cZ ad.out).2 v;have cz:=d3 c[d] d;have d1:=hid_ (d4 c[d] d);have dX:=hid_ cu;have d8:=hid_ cF;have eh:=hid_ (λh=>d0 h c[d]);have cD:=hid_ cz;clear a2 a5 C bQ a6 ar cu cF cz;generalize c[d]=r at*;go_wp2_with fail;refine b9.mono ?_;rintro aJ fb ⟨fa,rfl,df,eA,bA⟩;have cI:=hid_ df;obtain⟨dq,b5,rfl,eW,_⟩:=df;have cl:=hid_ (bO.a bA aB.out.1);have di:=bt_ K bA;clear eA au av b9 dp dj aB K bU ev bA;go_wp2_with fail;go_loopw [6,10,13] (λag bx F b7=>∃(l:Nat) (al:Value),al=bx/\l<=(bI f r d).length/\F=.int .i64 l/\ag=.int .i64 ((v+(t (c.take d)).length+(A r d l).length:Nat):Int)/\Hid (bO b7 al (cA (bJ g) f (t (c.take d)++A r d l))/\cL b7 (.slice dq (bI f r d).length b5) (bI f r d)/\Below B B b7)) (λ_ _ F _=>(bI f r d).length-(intOf F).toNat)
     case atStart=>exact⟨0,aa,rfl,zero_le _,rfl,by rw[cD.out];rfl,by rw[cD.out,append_nil];exact⟨cl.out,cI.out,di⟩⟩
     clear cl cI di;obtain⟨l,al,rfl,bN,rfl,rfl,T⟩:=hrel;have aE:=T.out.2.2;obtain⟨au,av,ax⟩:=jL (ab _ aE) b8;by_cases bE:l<(bI f r d).length
     .have ey:(l:Int)<((bI f r d).length:Int):=Q0;obtain⟨Y,Z,eS,dh,a7,a9,b2,b3,b4⟩:=nj T.out.2.1 bE;obtain⟨rfl,rfl⟩:dq=some ⟨Y,Z,none⟩/\b5=eS:=by simpa using dh
      obtain⟨db,a4,dc,_⟩:=iG.1 (getElem_mem bE);rw[db] at a9;have bh:=hid_ (d1 l bE);have cX:Hid (aH->P r (bI f r d)[l].a=true):=λh=>eh h _;have cs:Hid (aI->∀i,Below B B i->Calls prog 96 #[.agg #[.slice U g V,.slice (some ⟨rb,ro,none⟩) c rc],.agg #[d,.int .i64 (bI f r d)[l].x,.int .i64 (bI f r d)[l].y,.int .i64 (bI f r d)[l].z],j,.slice b0 u b1] i λe p=>e=.returned (.bool (P r (bI f r d)[l].a))/\Below i i p):=λh i hx=>dU h i _ a4 hx;have cr:Hid (∀i,Below B B i->Calls prog 97 #[.agg #[.slice U g V,.slice (some ⟨rb,ro,none⟩) c rc],o,d,.agg #[.int .i64 (bI f r d)[l].x,.int .i64 (bI f r d)[l].y,.int .i64 (bI f r d)[l].z]] i λe p=>e=.returned (.tuple #[.bool true,.agg #[.int .i64 (co g f r (bI f r d)[l].a).pred,.int .i64 (co g f r (bI f r d)[l].a).a,.int .i64 (co g f r (bI f r d)[l].a).b,.int .i64 (co g f r (bI f r d)[l].a).val]])/\Below i i p):=λi hx=>dQ i _ a4 dc hx;have dJ:=hid_ (dK _ a4);have eX:((v+(t (c.take d)).length+(A r d l).length:Nat):Int)<=10010000/\0<=((v+(t (c.take d)).length+(A r d l).length:Nat):Int):=⟨by have H:=dX l;have aw:=af.out.2.2.2;have c2:=dS.out;omega,Q0⟩;have I:=hid_ λi (hx:Below wr wr i)=>an_ ((bF hx a7).trans a9) (an_ ((bF hx a7).trans b2) (an_ ((bF hx a7).trans b3) ((bF hx a7).trans b4)));clear dh db a4 dc;generalize(bI f r d)[l]=X at*;generalize P r X.a=eT at*;generalize co g f r X.a=n at*;first
      |(have er:aH:=by(have h:=c3.out;simpa using h)
        obtain rfl:=cX er;go_wp2_with fail;have bm:=lo_ ax au;have bn:=lo_ ax av;have bo:=λ(i:Low wr.heap.size wr)=>(I _ i.low).1;have bp:=λ(i:Low wr.heap.size wr)=>(I _ i.low).2.1;have bq:=λ(i:Low wr.heap.size wr)=>(I _ i.low).2.2.1;have br:=λ(i:Low wr.heap.size wr)=>(I _ i.low).2.2.2;refine dz wr.heap.size SI SI ?_;repeat(go_big_quiet_step (fail))
        refine wpQuiet_nil ?_;rintro Q ⟨⟨_,aA⟩,rfl⟩;clear bm bn bo bp bq br a9 b2 b3 b4;go_wp2_with fail
        refine C4 (λQ=>Below wr wr Q) aA ?_)
      |(have es:aI:=by(have h:=c4.out;simpa using h)
        go_wp2_with fail;have bm:=lo_ ax au;have bn:=lo_ ax av;have bo:=λ(i:Low wr.heap.size wr)=>(I _ i.low).1;have bp:=λ(i:Low wr.heap.size wr)=>(I _ i.low).2.1;have bq:=λ(i:Low wr.heap.size wr)=>(I _ i.low).2.2.1;have br:=λ(i:Low wr.heap.size wr)=>(I _ i.low).2.2.2;refine dz wr.heap.size SI SI ?_;repeat(go_big_quiet_step (first|(go_at_call 96;exact dy (cs es _ (aE.trans ((Low.low _).mono aE.size))))))
        refine wpQuiet_nil ?_;rintro Q ⟨⟨_,aA⟩,rfl⟩;clear bm bn bo bp bq br a9 b2 b3 b4;cases eT
        .have HPQ:Hid (A r d (l+1)=A r d l):=by show _=_;rw[bh.out];simp
         have d5:Hid (bO Q al (cA (bJ g) f (t (c.take d)++A r d l))/\cL Q (.slice (some ⟨Y,Z,none⟩) (bI f r d).length b5) (bI f r d)/\Below B B Q):=⟨bO.a aA T.out.1,cL.a aA T.out.2.1,aE.trans (aA.mono aE.size)⟩;go_wp2_with fail;exact⟨⟨l+1,al,rfl,Q0,Rv,by rw[HPQ.out],by rw[HPQ.out];exact d5⟩,S6⟩
        go_wp2_with fail
        refine C4 (λQ=>Below wr wr Q) aA ?_)
      intro s aO;have HPQ:Hid (A r d (l+1)=A r d l++[n]):=by show _=_;rw[bh.out];simp
      have ca:Hid (cA (bJ g) f (t (c.take d)++A r d (l+1))=cy (bJ g) n (cA (bJ g) f (t (c.take d)++A r d l))):=by show _=_;rw[HPQ.out,<-List.append_assoc,rC]
      have aD:=bt_ aE aO;have cq:=hid_ λi (hx:Below s s i)=>cr i (aD.trans (hx.mono aD.size));have cJ:=hid_ (cL.a aO T.out.2.1);have dO:=hid_ (bO.a aO T.out.1);have cb:=hid_ (λi hx=>dC i al _ n (d8 l) dJ (bO.a hx dO.out) (be i (aD.trans (hx.mono aD.size))));have bl:Hid (∀p:World,Below s s p->p.cell? q=some (.slice U g V)/\p.cell? ⟨q,1,none⟩=some (.slice (some ⟨rb,ro,none⟩) c rc)/\p.cell? ⟨Y,Z+l*4+1,none⟩=some (.int .i64 X.x)/\p.cell? ⟨Y,Z+l*4+2,none⟩=some (.int .i64 X.y)/\p.cell? ⟨Y,Z+l*4+3,none⟩=some (.int .i64 X.z)):=λp eE=>by have hx:=aO.trans (eE.mono aO.size);exact⟨(bF hx ax).trans au,(bF hx ax).trans av,(I p hx).2.1,(I p hx).2.2.1,(I p hx).2.2.2⟩
      have KA:Hid (Below s s (s.alloc (.cells #[.int .i64 0,.int .i64 0,.int .i64 0,.int .i64 0] 93))):=bH _ _;have KS:=hid_ λi (hx:Below s s i) am an ao ap=>tB hx am an ao ap;have ei:=hid_ λi (hx:Below (s.alloc (.cells #[.int .i64 0,.int .i64 0,.int .i64 0,.int .i64 0] 93)).drew.heap.size (s.alloc (.cells #[.int .i64 0,.int .i64 0,.int .i64 0,.int .i64 0] 93)).drew i)=>tK hx;clear cs cr cX bh;go_region_held3 (λp=>p.cell? q=some (.slice U g V)/\p.cell? ⟨q,1,none⟩=some (.slice (some ⟨rb,ro,none⟩) c rc)/\p.cell? ⟨Y,Z+l*4+1,none⟩=some (.int .i64 X.x)/\p.cell? ⟨Y,Z+l*4+2,none⟩=some (.int .i64 X.y)/\p.cell? ⟨Y,Z+l*4+3,none⟩=some (.int .i64 X.z)) (first|(refine bl _ ?_;exact Yg)) (first|(go_at_call 97;refine(cq _ (KA.out.drew)).mono ?_;rintro aJ O ⟨rfl,J⟩;have hk:Below s s O:=KA.out.trans ((((Below.refl _ _).drew).trans J).mono KA.out.size);obtain⟨z0,z1,z2,z3,zf⟩:=ei _ J)|(go_at_call 97;refine(cq _ (Below.drew (Below.refl _ _))).mono ?_;rintro aJ O ⟨rfl,J⟩;have hk:Below s s O:=((Below.refl _ _).drew).trans J))
      .obtain⟨E,hW6⟩:=ex_ (O.alloc (.cells #[n.pred,n.a,n.b,n.val] 93));have M:Below s s E:=Vm;obtain⟨am,an,ao,ap⟩:E.cell? O=some (.int .i64 n.pred)/\E.cell? ⟨O,1,none⟩=some (.int .i64 n.a)/\E.cell? ⟨O,2,none⟩=some (.int .i64 n.b)/\E.cell? ⟨O,3,none⟩=some (.int .i64 n.val):=Vn;rw[hW6];clear hW6;have bY:=bt_ aD M;obtain⟨el,em,eJ,eL,eM⟩:=bl _ M;have bb:=cb E M;have bj:=hid_ (cL.a M cJ.out);go_wp2_with fail;refine bb.mono ?_;rintro aJ ek ⟨b6,rfl,aQ,bC,aP⟩;have bc:=hid_ aQ;have bk:=hid_ (cL.a aP bj.out);have bZ:=bt_ bY aP;clear aQ bC;go_wp2_with fail;refine⟨⟨l+1,b6,rfl,Q0,Rv,?_,?_⟩,S6⟩
       .exact aaX
       exact⟨by rw[ca.out];exact bc.out,bk.out,bZ⟩
      obtain⟨E,hW6⟩:=ex_ ((((O.setCell s n.pred).setCell ⟨s,1,none⟩ n.a).setCell ⟨s,2,none⟩ n.b).setCell ⟨s,3,none⟩ n.val);have M:Below s s E:=Vo;obtain⟨am,an,ao,ap⟩:E.cell? s=some (.int .i64 n.pred)/\E.cell? ⟨s,1,none⟩=some (.int .i64 n.a)/\E.cell? ⟨s,2,none⟩=some (.int .i64 n.b)/\E.cell? ⟨s,3,none⟩=some (.int .i64 n.val):=Vp;rw[hW6];clear hW6;have bY:=bt_ aD M;obtain⟨el,em,eJ,eL,eM⟩:=bl _ M;have bb:=cb E M;have bj:=hid_ (cL.a M cJ.out);go_wp2_with fail;refine bb.mono ?_;rintro aJ ek ⟨b6,rfl,aQ,bC,aP⟩;have bc:=hid_ aQ;have bk:=hid_ (cL.a aP bj.out);have bZ:=bt_ bY aP;clear aQ bC;go_wp2_with fail;refine⟨⟨l+1,b6,rfl,Q0,Rv,?_,?_⟩,S6⟩
      .exact aaX
      exact⟨by rw[ca.out];exact bc.out,bk.out,bZ⟩
     obtain rfl:l=(bI f r d).length:=Q0;go_wp2_with fail;refine⟨⟨d+1,al,rfl,Q0,Rv,?_,?_⟩,S6⟩
     .rw[aG.out,length_append];go_num
     rw[aG.out];exact⟨T.out.1,T.out.2.2⟩
    obtain rfl:d=c.length:=Q0
    have cm:Hid (bO wr aa (bV g c f (j:Int))):=by
     have h:=aB.out.1;rw[af.out.2.1,af.out.2.2.1] at h;exact h
    have dF:Hid ((t (c.take c)).length=(t c).length):=by show _=_;rw[af.out.2.1]
    obtain⟨aW,c7⟩:∃aW:Nat,Hid (aW=v+(t c).length):=⟨_,rfl⟩;rw[dF.out,<-c7.out];have bi:Hid (bS g c (bV g c f (j:Int))=0):=jK _ ad.out;have dP:=hid_ (mB (cZ bi.out).2);have ea:=hid_ (oP (cZ ad.out).2);have eb:=hid_ (oP (cZ bi.out).2);have ec:Hid (∀aU i,Below B B i->bO i aa (bV g c f (j:Int))->bO i aU (cO f (bV g c f (j:Int)))->aN R g c (j:Int) aq (dA g c j) (dA g c (j+1)) false aa aU f (bV g c f (j:Int)) (cO f (bV g c f (j:Int))) aW i):=λaU i hx H aw=>⟨ab i hx,H,aw,bi.out,λh=>Rm,λ_=>⟨ad.out,rfl,rfl,dG.out,by rw[c7.out];exact af.out.2.2.2⟩⟩;generalize eu:bV g c f (j:Int)=G at*;obtain⟨W5,ew⟩:∃W5,W5=wr:=⟨_,rfl⟩;subst ew;obtain⟨ep,eq,ex,eZ,_⟩:=id cm.out;subst ex;have cp:=lf_ cm.out;have dL:=hid_ λi (hx:Below W5 W5 i)=>aF i (K.trans (hx.mono K.size));clear aB;go_wp2_with fail;clear au av;go_loopw [8,16] (λaT F ds=>∃(k:Nat) (v5:Value),v5=aT/\k<=G.length/\F=.int .i64 k/\ds.ownsRow W5.heap.size 93 4 v5 (cO f (G.take k)).length (cB (cO f (G.take k)))/\Below W5 W5 ds) (λ_ F _=>G.length-(intOf F).toNat)
    case atStart=>exact⟨0,_,rfl,zero_le _,rfl,⟨rfl,.inl ⟨rfl,rfl⟩⟩,Below.refl _ _⟩
    obtain⟨k,v5,rfl,hk,rfl,aR,J⟩:=hrel;by_cases bG:k<G.length
    .obtain⟨aK,aL,en,c9,a3,dt,du,dv,dx⟩:=cN (cp wr J) bG;obtain⟨rfl,rfl⟩:ep=some ⟨aK,aL,none⟩/\eq=en:=by simpa using c9
     have ey:(k:Int)<(G.length:Int):=Q0;have HFT:Hid (cO f (G.take (k+1))=cO f (G.take k)++if cd f (bL G[k])=some G[k].val then[] else[G[k]]):=KR bG;have cM:=eb G[k] (getElem_mem bG)
     have HFL:Hid ((cO f (G.take k)).length<=125):=by
      have H:(cO f (G.take k)).length<=(G.take k).length:=List.length_filter_le _ _;rw[List.length_take] at H;have aw:=dP.out;show _<=_;omega
     clear c9;generalize G[k]=n at*;obtain⟨yp,ya,yb,yv⟩:=n;have bd:=vS wr o f yp ya yb yv (dL wr J) ea cM;have am:wr.cell? ⟨aK,aL+k*4,none⟩=some (.int .i64 yp):=dt;have an:wr.cell? ⟨aK,aL+k*4+1,none⟩=some (.int .i64 ya):=du;have ao:wr.cell? ⟨aK,aL+k*4+2,none⟩=some (.int .i64 yb):=dv;have ap:wr.cell? ⟨aK,aL+k*4+3,none⟩=some (.int .i64 yv):=dx;have eg:=hid_ λi (hx:Below wr wr i)=>an_ ((bF hx a3).trans am) (an_ ((bF hx a3).trans an) (an_ ((bF hx a3).trans ao) ((bF hx a3).trans ap)));clear dt du dv dx cM;change Hid (cO f (G.take (k+1))=cO f (G.take k)++if cd f (bL ⟨yp,ya,yb,yv⟩)=some yv then[] else[⟨yp,ya,yb,yv⟩]) at HFT;unfold eK at bd;generalize cd f (bL ⟨yp,ya,yb,yv⟩)=eI at*;go_wp2_with fail;refine bd.mono ?_;rintro aJ E ⟨rfl,bB⟩;have HOW:=hid_ (cg aR bB);have hb56:=bt_ J bB;have hsz:=hb56.size;clear am an ao ap aR bd;obtain⟨am,an,ao,ap⟩:=eg E bB;cases eI with
     |none=>
      rw[if_neg Q1] at HFT;exact afm
     |some dr=>
      by_cases a8:dr=yv
      .subst a8;rw[if_pos rfl,append_nil] at HFT;go_wp2_with fail;go_roundw
       case rel=>exact⟨k+1,v5,rfl,Q0,Rv,by rw[HFT.out];exact HOW.out,hb56⟩
       exact S6
      have e7:(dr==yv)=false:=by simpa using a8
      rw[if_neg (by simpa using a8)] at HFT;clear a8;exact afm
    obtain rfl:k=G.length:=Q0;rw[List.take_length] at aR;have dZ:=hid_ (lz aR (by have H:(cO f G).length<=G.length:=List.length_filter_le _ _;omega));have cU:=ec v5 wr (K.trans (J.mono K.size)) (cp wr J) dZ.out;have cV:=hid_ cU;clear cU aR;go_wp2_with fail;refine⟨⟨false,_,v5,f,G,cO f G,aW,rfl,rfl,rfl,rfl,cV⟩,?_⟩;subst eu;exact cv _ _ _ _ cV.out
  obtain⟨rfl,rfl⟩:w=false/\u=[]:=by
   cases w
   .exact⟨rfl,Classical.byContradiction λh=>ak (.inr h)⟩
   exact absurd (.inl rfl) ak
  have ch:Hid (f=cQ g c (j+1)/\v=dA g c (j+1)):=by
   obtain⟨bu,aY,aZ,bw,eo⟩:=D.out.two rfl;have bv:=aZ.symm;rw[rN bv] at eo;rw[aY] at bv bw;obtain⟨_,aX⟩:=uD bu bv;rw[aX] at bw;exact⟨by rw[cR.out.2,<-bw,aY],Q0⟩
  have ci:Hid (bO wr o (cQ g c (j+1))/\Below R R wr):=⟨by rw[<-ch.out.1];exact D.out.fac,D.out.bel⟩;have e6:j<5:=by have:=cx.out;omega
  clear ak;simp only[length_nil];go_wp2_with fail;exact⟨⟨j+1,o,rfl,by rw[ch.out.2],Q0,Rv,ci.out.2,ci.out.1⟩,S6⟩
 obtain rfl:j=cC (bM g c):=Q0;have dW:=hid_ (aC.trans (a1.mono aC.size));go_wp2_with fail;refine bodyPost_ret (v:=.tuple #[o,.int .i64 (dA g c (cC (bM g c)):Int)]) (by simp[results,results46,go_sem]) rfl ?_;exact⟨o,rfl,bD.out,dW.out⟩
set_option maxRecDepth 100000
theorem Ls:bV b9 ca fX 0=fX:=by
 have:=(nv 0 pQ).2;rw[AJ] at this;have e:=WG;exact e.symm
theorem Lt:bV b9 ca js 1=js:=by
 have:=(nv 1 A7).2;rw[AK] at this;have e:=WG;exact e.symm
theorem Li:(cK b9 (ce (bM b9 ca) 0) [] ca).length=4:=by rw[i8];kernel_rfl
theorem X7(h:p:=by rw[jb,i8];kernel_rfl):p:=h
theorem Lj:(jb b9 ca 0 [] nt).length=4:=X7
theorem Lk:(jb b9 ca 0 nt pP).length=4:=X7
theorem Ll:(jb b9 ca 0 pP nu).length=4:=X7
theorem Lm:(jb b9 ca 0 nu fX).length=4:=X7
theorem Ln:(cK b9 (ce (bM b9 ca) 1) fX ca).length=1:=by rw[i8];kernel_rfl
theorem Lo:(jb b9 ca 1 fX js).length=0:=X7
theorem KW:kg b9 ca 0 []=20:=by
 have a:=o6 (s:=0) tO (by rw[rm.1];exact cons_ne_nil _ _);have b:=o6 (s:=0) wU (by rw[rp.1];exact cons_ne_nil _ _);have c:=o6 (s:=0) wV (by rw[rq.1];exact cons_ne_nil _ _);have d:=o6 (s:=0) tP (by rw[rr.1];exact cons_ne_nil _ _);have f:f4 b9 ca 0 (dM+1) fX (bV b9 ca fX 0)=0:=rN (by rw[Ls];rfl);rw[rm.1] at a;rw[rp.1] at b;rw[rq.1] at c;rw[rr.1] at d;rw[kg,Li,rm.1,a,Lj,rp.1,b,Lk,rq.1,c,Ll,rr.1,d,Lm,f]
theorem KY:kg b9 ca 1 fX=1:=by
 have a:=o6 (s:=1) pQ (by rw[rt.1];exact cons_ne_nil _ _);have b:f4 b9 ca 1 (dM+1) js (bV b9 ca js 1)=0:=rN (by rw[Lt];rfl);rw[rt.1] at a;rw[kg,Ln,rt.1,a,Lo,b]
theorem Ly:mO b9 ca=21:=by
 rw[mO,if_neg X6,i8,show cC [0,0,1]=2 from rfl,dA,dA,dA,cQ,cQ];show 0+kg b9 ca 0 []+kg b9 ca 1 (dw b9 ca 0 [])=21;rw[wO.1,KW,KY]
