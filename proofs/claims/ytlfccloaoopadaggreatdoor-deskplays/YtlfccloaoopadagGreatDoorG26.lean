import Derived.ScopeJumps
import Derived.WalkMore
import Derived.Test.YtlfccloaoopadagGreatDoorG25
open Go.Proofs.Tryz
set_option maxRecDepth 100000
set_option maxHeartbeats 0
open List (mem_cons nodup_cons)
open Nat (le_refl not_lt)
namespace Go.Proofs.YtlfccloaoopadagGreatDoor
open Go.RowKit Go.Shelf
variable{p:Prop}
attribute [local go_sem] Oper.semAt_some
theorem Jo{d}{f:Exit->Act->World->Prop}{a:Act}{b:World}{h k}(l)(c:Act->World->Prop)(n:Act->World->Nat)(p:findLabel h l=some (Code.skip.seq k))(first:(∀a b,c a b->k.wp d (Exit.jump l c f) a b)->h.wp d (Exit.jump l c f) a b)(o:∀a b,c a b->k.wp d (Exit.jump l (λg m=>c g m/\n g m<n a b) f) a b):(Code.scope h).wp d f a b:=
 wp_scope_jumps l c n p (first λa b i=>wp_mono (o a b i) λe g m j=>by
  cases e with
  |goto q=>exact⟨j.1,j.2.1⟩
  |_=>exact j) λa b i=>wp_seq (wp_skip (o a b i))
theorem tV{i}{f g:World}(b:Below i f g)(a d):Below i (f.setCell a d) (g.setCell a d):=by
 refine⟨b.os,b.tape,b.output,by rw[cF,cF];exact b.size,λc j=>?_⟩;have e:=b.block c j;by_cases h:c=a.block
 .subst h;unfold World.setCell;rw[Array.getElem?_modify,Array.getElem?_modify,e]
 rw[Below.heap_setCell g a d c h,Below.heap_setCell f a d c h,e]
def lI(D:Nat):Deferred:={target:=.collected D,args:=#[]}
theorem T9(h:p:=by have:=(Array.getElem?_eq_some_iff.1 hD0.2).1;omega):p:=h
theorem aas(h:p:=by
 have hE0:=hD E (by simp[hE])
 have hne:E≠D:=λe=>h1 (e▸hE)
 exact⟨hE0.1,(World.putObj_heap_other hne).trans hE0.2⟩):p:=h
theorem pT{k n l p q}{m:Ending->World->Prop}(h):∀(d:List Nat) (c:World),d.Nodup->(∀D∈d,h<=D/\c.heap[D]? =some (.deferred (some [])))-> (∀f,Below h c f->(∀i o j,c.cell? ⟨i,o,none⟩=some j->f.cell? ⟨i,o,none⟩=some j)->LeavesIn k n l p q m [] .returning f)->LeavesInM k n l p q m (d.map lI) .returning c
 |[],c,_,_,g=>g c (Below.refl _ _) λ_ _ _ g=>g
 |D::d,c,v,hD,g=>by
  obtain⟨h1,r⟩:=nodup_cons.1 v
  have hD0:=hD D Q1
  have t:Below h c (c.putObj D (.deferred none)):=(Below.refl h c).grown (grownBy_putObj' c D _) T9 (λy e=>by cases e;exact hD0.1)
  refine⟨Q1,.inl ⟨D,c.putObj D (.deferred none),rfl,run_takeDeferred hD0.2,pT h d _ r (λE hE=>?_) λf s u=>?_⟩⟩
  .exact aas
  exact g f (t.trans s) λi o j w=>u i o j ((aq.b (λ_=>False) (.deferred none) hD0.2 rfl).a (λx=>x) w)
theorem B_{w:World}{n t}:dq (w.alloc (.cells (Array.replicate n (.int .i64 0)) t)) w ((List.replicate n 0).map fH):=by
 have:=B9 (w:=w) (n:=n) (t:=t);rwa[List.toArray_replicate] at this
theorem BD{c b:World}{a cap:Nat}{l:List Nat}(g:dq c a (l.map fH))(i:∀d o f,c.cell? ⟨d,o,none⟩=some f->b.cell? ⟨d,o,none⟩=some f)(k:l.length<=140737488355328)(h:a<b.heap.size):dD b (.slice (some ⟨a,0,none⟩) l cap) l:=
 ⟨_,cap,rfl,k,.inr ⟨a,0,rfl,h,λm n j=>by
  have:=(g m (fH n) (by rw[List.getElem?_map,j];rfl)).1
  rw[Nat.mul_one,Nat.zero_add]
  exact i _ _ _ this⟩⟩
def pU(W:World)(B n:Nat):List Nat:=(List.range n).map λk=>(intOf ((W.cell? ⟨B,k,none⟩).getD undef)).toNat
theorem BW{b:World}{a n l}(d:dq b a (l.map fH))(f:l.length=n):pU b a n=l:=by
 subst f;apply List.ext_getElem
 .simp[pU]
 intro h g c;have:=(oX d c).1;simp only[pU,List.getElem_map,List.getElem_range,this,Option.getD_some,intOf,Int.toNat_natCast];rw[bX,List.getD_eq_getElem?_getD,List.getElem?_eq_getElem c];rfl
theorem T_(h:p:=by rw[cF];exact le_refl _):p:=h
theorem Jd(f:World)(aT aU g r)(aN:bR f aT g)(H:ck f aU r)(bf:g.length<=5)(aM:∀ad∈r,aC g ad):Calls prog 74 #[.agg #[aT,aU]] f λe aZ=>((∃l aY,eX (cI r) g.length=some l/\e=.returned (.tuple #[aY,.int .i64 0])/\dD aZ aY l)\/(eX (cI r) g.length=none/\e=.returned (.tuple #[.slice none 0 0,.int .i64 8])))/\Below f f aZ:=by
 have bD:=hid_ aN;have a5:=hid_ H;obtain⟨aa,ab,rfl,bO,br⟩:=aN;obtain⟨Q,R,rfl,bP,bw⟩:=H;clear br bw;have bo:=@xe _ bf;have aF:=hid_ aM;clear aM;refine(callsIn_wide (n:=6)).1 (callsIn_of_wp_marks func74 rfl trivial (wpIn_wide.2 ?_) rfl);simp only[ntmps74,List.size_toArray,List.length_cons,List.length_nil,Nat.reduceAdd,Nat.reduceSub,Array.replicate_succ,Array.replicate_zero,List.push_toArray,List.append_toArray,List.nil_append,List.cons_append];go_wp2_with fail;have D:=hid_ (lJ aF.out);obtain⟨ao,aJ⟩:∃ao:List Nat->Act->World->Prop,ao=λl K k=>aQ (cI r) g l/\∃(v:List Nat) (aV aW aX:Value),v.Nodup/\(∀m∈v,f.heap.size<=m/\k.heap[m]? =some (.deferred (some [])))/\ dq k (f.heap.size+3) (l.map fH)/\k.cell? ⟨f.heap.size+4,0,none⟩=some (.slice (some ⟨f.heap.size+3,0,none⟩) g g)/\ k.cell? ⟨f,1,none⟩=some (.slice Q r R)/\k.cell? ⟨f.heap.size+1,0,none⟩=some (.slice none 0 0)/\k.frozen? ⟨f.heap.size+1,0,none⟩=false/\k.cell? ⟨f.heap.size+2,0,none⟩=some (.int .i64 0)/\k.frozen? ⟨f.heap.size+2,0,none⟩=false/\ Below f f k/\f.heap.size+4<k.heap.size/\ K={tmps:=#[.agg #[.slice aa g ab,.slice Q r R],.pointer (some ⟨f,0,none⟩),.pointer (some ⟨f.heap.size+1,0,none⟩),.pointer (some ⟨f.heap.size+2,0,none⟩),.pointer (some ⟨f.heap.size+4,0,none⟩),undef,undef,undef,.pointer (some ⟨f,0,none⟩),.slice aa g ab,.int .i64 g,.slice (some ⟨f.heap.size+3,0,none⟩) g g,aV,aW,aX,undef,undef,undef,undef,undef,undef,undef,undef,undef,undef,undef,undef,undef,undef,undef,undef,undef,undef,undef,undef,undef,undef,undef,undef,undef,undef,undef],defers:=v.map lI}:=⟨_,rfl⟩;refine Jo 0 (λK k=>∃l,ao l K k) (λ_ k=>g.length*g.length-(pU k (f.heap.size+3) g).sum) rfl ?first ?pass
 case first=>
  intro a4;go_wp2_with fail;refine wp_label ?_;rename_i a7 ha;refine ha _ _ (a4 _ _ ⟨List.replicate g 0,?_⟩);rw[aJ];refine⟨LS _ _,[],undef,undef,undef,List.nodup_nil,λm E=>absurd E Q1,?_,?_,?_,?_,?_,?_,?_,?_,?_,rfl⟩
  .have u:=B_ (w:=((f.alloc (.cells #[.slice aa g ab,.slice Q r R] 30)).alloc (.cells #[.slice none 0 0] 68)).alloc (.cells #[.int .i64 0] 22)) (n:=g.length) (t:=3);simp only[World.size_alloc] at u;exact u.a (bH _ _) Q1
  .simp[go_sem]
  .simp[go_sem]
  .simp[go_sem]
  .simp[go_sem]
  .simp[go_sem]
  .simp[go_sem]
  .exact((((Below.refl _ _).alloc (le_refl _) _).alloc Q1 _).alloc RD _|>.alloc RD _).alloc RD _
  simp
 rintro bE k ⟨l,aI⟩;rw[aJ] at aI⊢;obtain⟨C,v,aV,aW,aX,aw,U,aO,be,bi,bs,bt,bu,bv,bl,bx,rfl⟩:=aI;clear bo;go_wp2_with(first|(go_at_call 119;refine mq_ (Jt _ _ _ _) ?_));obtain⟨i,hW0⟩:=ex_ (k.alloc (.cells #[.slice Q r R] 28));have B:Below k k i:=S3;have aP:i.heap.size=k.heap.size+1:=by rw[<-hW0];simp
 have bk:i.cell? k=some (.slice Q r R):=by rw[<-hW0];simp[go_sem]
 have X:=aO.a B Q0;have ar:=(bF B bx).trans be;have ag:=(bF (o:=0) B (show f.heap.size+1<k.heap.size by omega)).trans bs;have ax:=(B.frozen (p:=⟨f.heap.size+1,0,none⟩) (show f.heap.size+1<k.heap.size by omega)).trans bt;have ah:=(bF (o:=0) B (show f.heap.size+2<k.heap.size by omega)).trans bu;have ay:=(B.frozen (p:=⟨f.heap.size+2,0,none⟩) (show f.heap.size+2<k.heap.size by omega)).trans bv;have bj:=(bF (o:=1) B (show f.heap.size<k.heap.size by omega)).trans bi;have O:=bt_ bl B;have J:=hid_ C.len;rw[hW0]
 have an:Hid (∀m,i.heap.size<=m->m∉v):=λm M bn=>by
  have:=(Array.getElem?_eq_some_iff.1 (U m bn).2).1;omega
 have am:Hid (∀o,Below i i o->∀m∈v,o.heap[m]? =some (.deferred (some []))):=λo bh m M=>by
  have u:=(U m M).2;have A:=(Array.getElem?_eq_some_iff.1 u).1;rw[bh.block m Q0,B.block m A,u]
 refine(wpIn_wide (n:=6)).1 (wpIn_rangeFunc_ownH (α:=nw (cI r)) rfl Q0 (gf:=166) (lb:=#[.pointer (some ⟨k,0,none⟩)]) rfl trivial (enters_of func166 (by kernel_rfl) rfl)
  (Js (6-1) Q0 k f.heap.size (λ_=>False) _ g r i Q0 (λ_ E=>E.elim) Q0 bk f rfl O a5 aF.out)
  aq.c (λo bT Z bB _ E bq _=>aq.b _ bB E bq) (Below.refl _ _) (λ_=>rfl)
  (λac o=>(∀e∈mg ac,bX l e.b+e.a<=bX l e.h)/\Below i i o)
  (λaf _ o=>(af=.goto 0/\∃e∈cI r,bX l e.h<bX l e.b+e.a/\bX l e.b+e.a≠g.length/\Below i.heap.size (i.setCell ⟨f.heap.size+3,e.h,none⟩ (.int .i64 ((bX l e.b+e.a:Nat):Int))) o)\/
   (af=.ret/\(∃e∈cI r,bX l e.b+e.a=g.length)/\Below i.heap.size ((i.setCell ⟨f.heap.size+1,0,none⟩ (.slice none 0 0)).setCell ⟨f.heap.size+2,0,none⟩ (.int .i64 8)) o))
  (OwnFrom.and (λ_ _ _ _ Y _ _=>Y) (ownFrom_below (le_refl _) (le_refl _)))
  (λaf bC ak al aD Y V H=>?hIx)
  ⟨λe he=>absurd he (by simp[mg]),Below.refl _ _⟩
  (λz K o=>∃I,i.heap.size<=I/\o.cell? I=some (.bool z.1.e.neg)/\o.cell? ⟨I,1,none⟩=some (.int .i64 (z.1.e.b:Int))/\
   K={tmps:=#[.agg #[.slice aa g ab,.slice Q r R],.pointer (some ⟨f,0,none⟩),.pointer (some ⟨f.heap.size+1,0,none⟩),.pointer (some ⟨f.heap.size+2,0,none⟩),.pointer (some ⟨f.heap.size+4,0,none⟩),.int .i64 (z.1.e.h:Int),.pointer (some ⟨I,0,none⟩),undef,.pointer (some ⟨f,0,none⟩),.slice aa g ab,.int .i64 g,.slice (some ⟨f.heap.size+3,0,none⟩) g g,.pointer (some ⟨f,1,none⟩),.slice Q r R,.func (.func 166) #[] #[.pointer (some ⟨k,0,none⟩)],.int .i64 (z.1.e.h:Int),.agg #[.bool z.1.e.neg,z.1.e.b,.slice z.1.a z.1.n z.1.c],undef,undef,undef,undef,undef,undef,undef,undef,undef,undef,undef,undef,undef,undef,undef,undef,undef,undef,undef,undef,undef,undef,undef,undef,undef],defers:=[]})
  (λz K bC ak al aD Y V H=>?hAx) ?assign ?body ?done ?stop)
 case hIx=>
  rcases Y with⟨rfl,e,he,u,A,x⟩|⟨rfl,he,x⟩
  .exact .inl ⟨rfl,e,he,u,A,ownFrom_below (β:=Unit) T_ (le_refl _) () ak al aD x V H⟩
  exact .inr ⟨rfl,he,ownFrom_below (β:=Unit) (by rw[cF,cF];exact le_refl _) (le_refl _) () ak al aD x V H⟩
 case hAx=>
  obtain⟨I,u,A,x,rfl⟩:=Y;exact⟨I,u,cell_kept A V (λad e=>(H ad e).2),cell_kept x V (λad e=>(H ad e).2),rfl⟩
 case assign=>
  rintro bA ac ⟨⟨⟨s,q,a3⟩,a0,a2,a1⟩,P⟩ o a7 G N;dsimp only[xj] at N⊢;gi_wp2;refine N _ _ ((KeepsOthers.alloc _ _).from _) (aq.d _ _ _) ⟨G.1,G.2.trans ((Below.refl _ _).alloc G.2.size _)⟩ ⟨o,G.2.size,?_,?_,rfl⟩
  .simp[go_sem]
  simp[go_sem]
 case body=>
  rintro bA ac ⟨⟨⟨s,q,a3⟩,a0,a2,a1⟩,P⟩ K o bN _ ⟨G,j⟩ ⟨I,bM,bc,bd,rfl⟩ _;dsimp only at bc bd⊢;have aK:=D _ P;dsimp only at aK;obtain⟨az,aS⟩:=aK;have bb:=(j.cell (p:=⟨f.heap.size+4,0,none⟩) (show f.heap.size+4<i.heap.size by omega)).trans ar;have bG:=(j.cell (p:=⟨f.heap.size+3,q,none⟩) (show f.heap.size+3<i.heap.size by omega)).trans (oX X (by rw[J.out];exact aS)).1;have bJ:=(j.cell (p:=⟨f.heap.size+3,s,none⟩) (show f.heap.size+3<i.heap.size by omega)).trans (oX X (by rw[J.out];exact az)).1;have bI:=(j.frozen (p:=⟨f.heap.size+3,s,none⟩) (show f.heap.size+3<i.heap.size by omega)).trans (oX X (by rw[J.out];exact az)).2;have aG:=(j.cell (p:=⟨f.heap.size+1,0,none⟩) (show f.heap.size+1<i.heap.size by omega)).trans ag;have a9:=(j.frozen (p:=⟨f.heap.size+1,0,none⟩) (show f.heap.size+1<i.heap.size by omega)).trans ax;have aH:=(j.cell (p:=⟨f.heap.size+2,0,none⟩) (show f.heap.size+2<i.heap.size by omega)).trans ah;have ba:=(j.frozen (p:=⟨f.heap.size+2,0,none⟩) (show f.heap.size+2<i.heap.size by omega)).trans ay;have bQ:=C.small q aS;have bS:=C.small s az;have bK:(q:Int)<(g.length:Int):=Q0;have bL:(s:Int)<(g.length:Int):=Q0;generalize F:bX l q=w at*;generalize au:bX l s=L at*
  have aE:Hid (∀ae:Bool,¬L<w+(⟨s,q,ae⟩:ai).a->∀(E:(⟨s,q,ae⟩:ai)∈cI r),∀e∈mg (ac++[(⟨⟨⟨s,q,ae⟩,a0,a2,a1⟩,E⟩:nw (cI r))]),bX l e.b+e.a<=bX l e.h):=by
   intro ae S E e he;rw[Bu] at he;rcases List.mem_append.1 he with he|he
   .exact G e he
   rw[List.mem_singleton.1 he];show bX l q+_<=bX l s;rw[F,au];exact not_lt.1 S
  cases a3
  .have aL:(w:Int)≠(g.length:Int):=Q0;by_cases W:L<w
   .have av:(L:Int)<(w:Int):=Q0;gi_wp2;refine wpIn_goto ?_
    exact⟨(KeepsOthers.setCell _ _ _).from _,.inl ⟨rfl,⟨s,q,false⟩,P,by show bX l s<bX l q+0;rw[F,au];exact W,by show bX l q+0≠_;rw[F];omega,by
     show Below _ (i.setCell ⟨f.heap.size+3,s,none⟩ (.int .i64 ((bX l q+0:Nat):Int))) _;rw[F]
     exact tV j _ _⟩⟩
   have av:¬(L:Int)<(w:Int):=Q0;gi_wp2;exact⟨KeepsFrom.refl _ _,aq.e _ _,aE false W P,by rw[<-aP];exact j⟩
  by_cases bp:w+1=g.length
  .have aL:(w:Int)+1=(g.length:Int):=Q0;gi_wp2;exact⟨((KeepsOthers.setCell _ _ _).trans (KeepsOthers.setCell _ _ _)).from _,.inr ⟨rfl,⟨⟨s,q,true⟩,P,by show bX l q+1=_;rw[F];exact bp⟩,tV (tV j _ _) _ _⟩⟩
  have aL:(w:Int)+1≠(g.length:Int):=Q0;by_cases W:L<w+1
  .have av:(L:Int)<(w:Int)+1:=Q0;gi_wp2;refine wpIn_goto ?_
   exact⟨(KeepsOthers.setCell _ _ _).from _,.inl ⟨rfl,⟨s,q,true⟩,P,by show bX l s<bX l q+1;rw[F,au];exact W,by show bX l q+1≠_;rw[F];omega,by
    show Below _ (i.setCell ⟨f.heap.size+3,s,none⟩ (.int .i64 ((bX l q+1:Nat):Int))) _;rw[F]
    exact tV j _ _⟩⟩
  have av:¬(L:Int)<(w:Int)+1:=Q0;gi_wp2;exact⟨KeepsFrom.refl _ _,aq.e _ _,aE true W P,by rw[<-aP];exact j⟩
 case done=>
  rintro m bW o M bg ⟨G,j⟩ N;have a6:=hid_ (LO D C λe he=>not_lt.2 (G e (by rw[bg];exact he)));have bb:=(j.cell (p:=⟨f.heap.size+4,0,none⟩) (show f.heap.size+4<i.heap.size by omega)).trans ar;have aG:=(j.cell (p:=⟨f.heap.size+1,0,none⟩) (show f.heap.size+1<i.heap.size by omega)).trans ag;have a9:=(j.frozen (p:=⟨f.heap.size+1,0,none⟩) (show f.heap.size+1<i.heap.size by omega)).trans ax;have aH:=(j.cell (p:=⟨f.heap.size+2,0,none⟩) (show f.heap.size+2<i.heap.size by omega)).trans ah;have ba:=(j.frozen (p:=⟨f.heap.size+2,0,none⟩) (show f.heap.size+2<i.heap.size by omega)).trans ay;go_wp2_with fail;show LeavesInM _ _ _ _ _ _ ((m::v).map lI) _ _;refine pT f (m::v) _ (nodup_cons.2 ⟨an m M,aw⟩) (λy hD'=>?_) λa8 S T=>?_
  .rcases mem_cons.1 hD' with rfl|hD'
   .exact⟨Q0,((KeepsOthers.setCell _ _ _).trans (KeepsOthers.setCell _ _ _)).same _ _ N rfl⟩
   exact⟨(U y hD').1,((KeepsOthers.setCell _ _ _).trans (KeepsOthers.setCell _ _ _)).same _ _ (am o j y hD') rfl⟩
  have aA:=T (f.heap.size+1) 0 _ (by rw[cb Q0];exact fC aG);have aB:=T (f.heap.size+2) 0 _ (fC (by rw[cb Q0];exact aH));have aj:=X.a j Q0;have aR:=j.size;have bz:=S.size;rw[cF,cF] at bz;refine⟨.tuple #[.slice (some ⟨f.heap.size+3,0,none⟩) g g,.int .i64 0],by simp[results,f74,go_sem,aA,aB],.inl ⟨l,_,a6.out,rfl,?_⟩,?_⟩
  .have:=BD (cap:=g.length) ((aj.c (o:=0) (show f.heap.size+1≠f.heap.size+3 by omega) _).c (o:=0) (show f.heap.size+2≠f.heap.size+3 by omega) _) T (by rw[J.out];omega) Q0;rw[J.out] at this;exact this
  exact(((O.trans (j.mono O.size)).setCell (p:=⟨f.heap.size+1,0,none⟩) Q1 _).setCell (p:=⟨f.heap.size+2,0,none⟩) Q1 _).trans S
 rintro m af ac o M _ bm N;rcases bm with⟨rfl,e,he,u,A,j⟩|⟨rfl,⟨e,he,u⟩,j⟩
 .refine wpIn_wide.2 (wp_goto ?_);have aj:dq o (f.heap.size+3) ((mm l e).map fH):=(w_ X (by rw[J.out];exact(D e he).1) (bX l e.b+e.a)).a j Q0;have aR:=j.size;rw[cF] at aR;refine⟨rfl,⟨mm l e,xK D C he A,m::v,_,_,_,nodup_cons.2 ⟨an m M,aw⟩,λy hD'=>?_,aj,?_,?_,?_,?_,?_,?_,?_,?_,rfl⟩,?_⟩
  .rcases mem_cons.1 hD' with rfl|hD'
   .exact⟨Q0,N⟩
   have x:=am i (Below.refl _ _) y hD';have ap:=(Array.getElem?_eq_some_iff.1 x).1;exact⟨(U y hD').1,(j.block y ap).trans ((KeepsOthers.setCell _ _ _).same _ _ x rfl)⟩
  .exact(j.cell (p:=⟨f.heap.size+4,0,none⟩) (show f.heap.size+4<i.heap.size by omega)).trans ((cb Q0).trans ar)
  .exact(j.cell (p:=⟨f,1,none⟩) (show f.heap.size<i.heap.size by omega)).trans ((cb Q0).trans bj)
  .exact(j.cell (p:=⟨f.heap.size+1,0,none⟩) (show f.heap.size+1<i.heap.size by omega)).trans ((cb Q0).trans ag)
  .exact(j.frozen (p:=⟨f.heap.size+1,0,none⟩) (show f.heap.size+1<i.heap.size by omega)).trans (gI.trans ax)
  .exact(j.cell (p:=⟨f.heap.size+2,0,none⟩) (show f.heap.size+2<i.heap.size by omega)).trans ((cb Q0).trans ah)
  .exact(j.frozen (p:=⟨f.heap.size+2,0,none⟩) (show f.heap.size+2<i.heap.size by omega)).trans (gI.trans ay)
  .exact(O.setCell (p:=⟨f.heap.size+3,e.h,none⟩) Q1 _).trans (j.mono O.size)
  .omega
  show g.length*g.length-(pU o (f.heap.size+3) g).sum<g.length*g.length-(pU k (f.heap.size+3) g).sum;rw[BW aj (xK D C he A).len,BW aO J.out];have bU:=LU D C he u;have bV:=LR (xK D C he A);omega
 refine wpIn_wide.2 (wp_ret ?_);show LeavesInM _ _ _ _ _ _ ((m::v).map lI) _ _;refine pT f (m::v) _ (nodup_cons.2 ⟨an m M,aw⟩) (λy hD'=>?_) λa8 S T=>?_
 .rcases mem_cons.1 hD' with rfl|hD'
  .exact⟨Q0,N⟩
  have x:=am i (Below.refl _ _) y hD';have ap:=(Array.getElem?_eq_some_iff.1 x).1;exact⟨(U y hD').1,(j.block y ap).trans (((KeepsOthers.setCell _ _ _).trans (KeepsOthers.setCell _ _ _)).same _ _ x rfl)⟩
 have aA:=T (f.heap.size+1) 0 _ ((j.cell (p:=⟨f.heap.size+1,0,none⟩) (show f.heap.size+1<i.heap.size by omega)).trans ((cb Q0).trans (fC ag)));have aB:=T (f.heap.size+2) 0 _ ((j.cell (p:=⟨f.heap.size+2,0,none⟩) (show f.heap.size+2<i.heap.size by omega)).trans (fC ((cb Q0).trans ah)));refine⟨.tuple #[.slice none 0 0,.int .i64 8],by simp[results,f74,go_sem,aA,aB],.inr ⟨LQ D C he u,rfl⟩,?_⟩;exact(((O.setCell (p:=⟨f.heap.size+1,0,none⟩) Q1 _).setCell (p:=⟨f.heap.size+2,0,none⟩) Q1 _).trans (j.mono O.size)).trans S
attribute [local go_sem] Oper.semAt_some
