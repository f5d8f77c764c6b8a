import Derived.RangeFuncNested
import Derived.RangeFuncBound
import Derived.RangeFuncCalls
import Derived.RangeFuncLeaves
import Derived.Shelf.RegionOpen
import Derived.OwnWalkIn
import Derived.TacticsInMore
import Derived.LoopNIn
import Derived.LoopIn
import Derived.Test.YtlfccloaoopadagGreatDoorG10
open Go.Proofs.Tryz
set_option maxRecDepth 100000
set_option maxHeartbeats 0
namespace Go.Proofs.YtlfccloaoopadagGreatDoor
open Go.RowKit Go.Shelf
variable{p:Prop}
attribute [local go_sem] Oper.semAt_some
structure aq (X:Nat->Prop) (W W':World):Prop where
 size:W.heap.size<=W'.heap.size
 same:∀(k:Nat) (o:Obj),¬X k->W.heap[k]? =some o->o.isCells=true->W'.heap[k]? =some o
theorem aq.e(b:Nat->Prop)(a:World):aq b a a:=⟨Nat.le_refl _,λ_ _ _ c _=>c⟩
theorem aq.c{a:Nat->Prop}{b d f:World}(g:aq a b d)(k:aq a d f):aq a b f:=
 ⟨Nat.le_trans g.size k.size,λj l i m h=>k.same j l i (g.same j l i m h) h⟩
theorem aq.f{c:Nat->Prop}{a b:World}{j}(d:a.grownBy b j)(k:∀h,j=some h->c h):aq c a b:=
 ⟨d.size,λi _ l g _=>(d.block i (Array.getElem?_eq_some_iff.1 g).1 (λe=>l (k i e.symm))).trans g⟩
theorem T8(h:p:=by cases e):p:=h
theorem aq.d(b:Nat->Prop)(a:World)(o):aq b a (a.alloc o):=aq.f (World.grownBy_alloc a o none) (λ_ e=>T8)
theorem aq.b(h:Nat->Prop){a:World}{l o}(d)(i:a.heap[l]? =some o)(k:o.isCells=false):aq h a (a.putObj l d):=
 ⟨(grownBy_putObj' a l d).size,λg m _ c f=>by
  have j:g≠l:=λe=>by subst e;rw[i] at c;cases c;rw[k] at f;cases f
  exact((grownBy_putObj' a l d).block g (Array.getElem?_eq_some_iff.1 c).1 (λe=>j (by cases e;rfl))).trans c⟩
theorem Jc{f:Nat->Prop}{a b:World}(c:Below a a b):aq f a b:=⟨c.size,λk o _ d _=>by
 rw[<-d]
 exact c.block k (Array.getElem?_eq_some_iff.1 d).1⟩
theorem aq.a{h:Nat->Prop}{f g:World}(j:aq h f g){c o i}(k:¬h c)(b:f.cell? ⟨c,o,none⟩=some i):g.cell? ⟨c,o,none⟩=some i:=by
 unfold World.cell? at b⊢;cases d:f.heap[c]? with
 |none=>simp only[d] at b;cases b
 |some l=>
  cases l with
  |cells m p n=>
   have:=j.same c _ k d rfl;simp only[d] at b;simp only[this];exact b
  |_=>simp only[d] at b;cases b
structure Use where
 e:ai
 a:Option Addr
 n:Nat
 c:Nat
abbrev nw(E:List ai):={u:Use//u.e∈E}
def xj{E:List ai}(u:nw E):Array Value:=#[.int .i64 (u.1.e.h:Int),.agg #[.bool u.1.e.neg,u.1.e.b,.slice u.1.a u.1.n u.1.c]]
def mg{E:List ai}(l:List (nw E)):List ai:=l.map λu=>u.1.e
theorem Bu{a}(l:List (nw a))(b:nw a):mg (l++[b])=mg l++[b.1.e]:=by simp[mg]
theorem I9{a}(l:List (nw a)):(mg l).length=l.length:=by simp[mg]
theorem Jt(a:World)(b n c):Calls prog 119 #[.slice b n c] a λe d=>e=.returned (.func (.func 166) #[] #[.pointer (some ⟨a,0,none⟩)])/\d=a.alloc (.cells #[.slice b n c] 28):=by
 go_enter func119,ntmps119;exact aek
theorem aaW(h:p:=by rw[<-List.flatMap_append,List.take_append_drop]):p:=h
theorem I_(a k):(cI (a.take k)).length<=(cI a).length:=by
 have:cI a=cI (a.take k)++cI (a.drop k):=by
  unfold cI;exact aaW
 rw[this,List.length_append];omega
theorem Js(n)(bq:1<=n)(B y)(m:Nat->Prop)(ax a4 b)(u:World)(aP:B<u.heap.size)(Q:∀k,m k->y<=k/\k<u.heap.size)(aW:y<=u.heap.size)(R:u.cell? B=some ax)(A:World)(bx:A.heap.size=y)(an:Below y A u)(au:ck A ax b)(ar:∀g∈b,aC a4 g):SeqStopsK Fence.wide n prog 166 #[.pointer (some ⟨B,0,none⟩)] (xj (E:=cI b)) (aq m) (λbb=>mg bb=cI b) (λ_=>True) (cI b).length u:=λl ah bc D F ak _ aS aM=>by
 have aF:=hid_ au
 obtain⟨a5,a7,rfl,bv,aY⟩:=au
 clear aY
 have bn:=(F.cell (p:=⟨B,0,none⟩) aP).trans R
 have aH:=hid_ (an.trans (F.mono aW))
 have aB:=hid_ ar
 clear ar
 refine callsIn_of_wp func166 rfl trivial ?_ rfl
 simp only[ntmps166,List.size_toArray,List.length_cons,List.length_nil,Nat.reduceAdd,Nat.reduceSub,Array.replicate_succ,Array.replicate_zero,List.push_toArray,List.append_toArray,List.nil_append,List.cons_append]
 have j:Hid (∀i o I ad,aq m D i->o<A.heap.size->A.cell? ⟨o,I,none⟩=some ad->i.cell? ⟨o,I,none⟩=some ad):=λi o I ad W bl aT=>
  W.a (λN=>by have:=(Q o N).1;omega) ((aH.out.cell (p:=⟨o,I,none⟩) (show o<y by omega)).trans aT)
 have aI:Hid (∀k,D.heap.size<=k->¬m k):=λk aU N=>by have:=(Q k N).2;have:=F.size;omega
 clear Q an R F
 gi_wp2
 gi_loopw [9] (λr wr=>∃(k:Nat) (z:List (nw (cI b))),k<=b.length/\r=.int .i64 k/\Hid (mg z=cI (b.take k))/\ah z wr/\aq m D wr) (λr _=>b.length-(intOf r).toNat)
 case atStart=>exact⟨0,[],Nat.zero_le _,rfl,rfl,aM,aq.e _ _⟩
 obtain⟨k,z,aU,rfl,q,O,f⟩:=hrel
 by_cases G:k<b.length
 .obtain⟨a6,a9,a8,hv,x,S⟩:=cN aF G
  obtain⟨rfl,rfl⟩:a5=some ⟨a6,a9,none⟩/\a7=a8:=S2
  obtain⟨J,⟨bw,Z,ba⟩,aa,ab,bh,ac,ay⟩:=S
  have aE:=hid_ ay
  obtain⟨aJ,aK,rfl,bm,_⟩:=ay
  obtain⟨bk,R,rfl,_⟩:=ba
  replace J:=j wr _ _ _ f x J
  replace Z:=j wr _ _ _ f x Z
  replace aa:=j wr _ _ _ f x aa
  replace ab:=j wr _ _ _ f x ab
  replace ac:=j wr _ _ _ f x ac
  have ag:=hid_ (aB _ (List.getElem_mem G))
  have af:=hid_ (By G)
  have aD:=hid_ (I_ b (k+1))
  have aA:Hid (∀i∈b[k].body,iY b[k] i∈cI b):=λi W=>List.mem_flatMap.2 ⟨b[k],List.getElem_mem G,List.mem_map.2 ⟨i,W,rfl⟩⟩
  have bo:(0:Int)<=(k:Int):=Q0
  have bp:(k:Int)<(b.length:Int):=Q0
  clear hv
  generalize bu:b[k]=g at*
  obtain⟨s,ao⟩:∃s:Nat,g.head.pred=(s:Int):=⟨_,ag.out.head.2⟩
  have az:Hid (∀i,iY g i=⟨s,i.atom.pred.toNat,i.neg⟩):=λi=>by rw[iY,ao];rfl
  rw[ao] at J
  gi_wp2
  have P:=aI _ f.size
  obtain⟨ai,w⟩:=ex_ wr.heap.size
  rw[w] at P⊢
  gi_loopw [16] (λr ae=>∃(h:Nat) (t:List (nw (cI b))),h<=g.body.length/\r=.int .i64 h/\Hid (mg t=cI (b.take k)++(g.body.take h).map (iY g))/\ah t ae/\aq m D ae/\ae.cell? ai=some (.int .i64 (s:Int))) (λr _=>g.body.length-(intOf r).toNat)
  case atStart=>
   refine⟨0,z,Nat.zero_le _,rfl,by rw[List.take_zero,List.map_nil,List.append_nil];exact q,ak _ _ _ none O (World.grownBy_alloc _ _ none) (λ_ e=>T8),f.c (aq.d _ _ _),?_⟩
   rw[<-w]
   simp[go_sem]
  clear J Z aa ab ac O f q w
  obtain⟨h,t,br,rfl,q,al,f,aj⟩:=hrel
  by_cases H:h<g.body.length
  .obtain⟨a1,a3,a2,hv,V,S⟩:=cN aE H
   obtain⟨rfl,rfl⟩:aJ=some ⟨a1,a3,none⟩/\aK=a2:=S2
   obtain⟨av,X,bf,aw,a0⟩:=S
   obtain⟨K,L,rfl,_⟩:=a0
   replace av:=j _ _ _ _ f V av
   replace X:=j _ _ _ _ f V X
   replace aw:=j _ _ _ _ f V aw
   have am:=ag.out.body _ (List.getElem_mem H)
   have C:=BH H
   have U:=aA _ (List.getElem_mem H)
   rw[az.out] at C U
   obtain⟨v,T⟩:∃v:Nat,g.body[h].atom.pred=(v:Int):=⟨_,am.2⟩
   rw[T] at X
   rw[T,Int.toNat_natCast] at C U
   have aG:Hid _:=C
   have aX:t.length<(cI b).length:=by
    have aN:=aD.out
    have aO:=congrArg List.length q.out
    rw[af.out,List.length_append,List.length_map] at aN
    rw[I9,List.length_append,List.length_map,List.length_take] at aO
    omega
   clear C hv am T
   have bs:(0:Int)<=(h:Int):=Q0
   have bt:(h:Int)<(g.body.length:Int):=Q0
   generalize g.body[h].neg=Y at*
   generalize g.body[h].atom.args.length=M at*
   obtain⟨bj,bz,be,bg,aZ,w⟩:=aS t ⟨⟨⟨s,v,Y⟩,K,M,L⟩,U⟩ (wr.alloc (.cells #[.bool Y,v,.slice K M L] 103)) (ak _ _ _ none al (World.grownBy_alloc _ _ none) (λ_ e=>T8)) aX
   dsimp only[xj] at aZ
   have bi:(wr.alloc (.cells #[.bool Y,v,.slice K M L] 103)).cell? ai=some (.int .i64 (s:Int)):=(aq.d m _ _).a P aj
   gi_wp2
   refine w.mono ?_
   rintro e bd (⟨rfl,aQ,ap⟩|⟨rfl,aR⟩)
   .have aV:=(f.c (aq.d _ _ _)).c ap
    have aL:=((aq.d m _ _).c ap).a P aj
    gi_wp2
    go_roundw
    case rel=>exact⟨h+1,_,Q0,Rv,by show _=_;rw[Bu,q.out,aG.out,List.append_assoc],aQ,aV,aL⟩
    exact S6
   gi_wp2
   refine bodyPost_ret (results_none rfl _ _ _) rfl ?_
   exact⟨⟨_,rfl⟩,.inr ⟨_,trivial,aR⟩⟩
  obtain rfl:h=g.body.length:=Q0
  gi_wp2
  go_roundw
  case rel=>exact⟨k+1,t,Q0,Rv,by show _=_;rw[q.out,af.out,List.take_length],al,f⟩
  exact S6
 obtain rfl:k=b.length:=Q0
 gi_wp2
 go_end0
 exact⟨⟨_,rfl⟩,.inl ⟨z,by have:=q.out;rwa[List.take_length] at this,O⟩⟩
