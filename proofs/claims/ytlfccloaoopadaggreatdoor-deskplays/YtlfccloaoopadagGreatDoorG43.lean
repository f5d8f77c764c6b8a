import Derived.RangeFuncNested
import Derived.Test.YtlfccloaoopadagGreatDoorG1
set_option maxRecDepth 100000
set_option maxHeartbeats 0
open Go.World (alloc_heap_new putObj_heap_other putObj_heap_same size_alloc)
open Nat (le_refl)
namespace Go.Proofs.YtlfccloaoopadagGreatDoor
open Go Go.RowKit
variable{p:Prop}
variable {F:Fence} {n:Nat} {P:Program}
def Cb{α:Type}(F:Fence)(n:Nat)(P:Program)(g:Nat)(lb:Array Value)(encs:α->Array Value)(R:α->World->Prop)(Kp:World->World->Prop)(E:List α->World->Prop)(N:Nat)(w:World):Prop:=
 ∀(l:Nat) (J:List α->World->Prop) (W:World),Below w w W->AbidesFrom W.heap.size J-> (∀pre x W1,R x W1->J pre W1->pre.length<N->YieldAt F (n-1) P l (encs x) W1 λe W'=>e=.returned (.bool true)/\J (pre++[x]) W'/\Kp W1 W')-> J [] W->CallsIn F n P g (#[.func (.yield l) #[] #[]]++lb) W λe W'=>(∃v,e=.returned v)/\∃xs,E xs W'/\J xs W'
theorem WB(h:p:=by omega):p:=h
theorem Cc{α:Type}{U:Operand}{B:Array Tmp}{assign body:Code}{S:Exit->Act->World->Prop}{p:Act}{a:World}(aH:F.round=none)(ai:1<=n){gf:Nat}{lb:Array Value}(aw:p.eval U=.func (.func gf) #[] lb)(am:F.fn gf)(ag:∀args a,(callFunc gf args).run P a=.ok (.enter gf args) a){z:α->Array Value}{T:α->World->Prop}{k:World->World->Prop}{H:List α->World->Prop}{R:Nat}{N:World}(aI:Cb F (n-1) P gf lb z T k H R N)(I:∀{m f O:World},k m f->k f O->k m O)(V:∀(b:World) (l:Nat) (o aM:Obj),a.heap.size<=l->b.heap[l]? =some o->o.isCells=false->o.isWalk=false->k b (b.putObj l aM))(W:Below N N a)(aG:∀c,(z c).size=B.size)(j:List α->World->Prop)(q:OwnFrom a.heap.size j)(ak:OwnFrom a.heap.size H)(ah:j [] a)(E:α->Act->World->Prop)(aj:∀c h,OwnFrom a.heap.size (fun(_:Unit) b=>E c h b))
 (ao:∀(l:Nat) (g:List α) (c:α) (b:World) (Q:Act->World->Prop),T c b->j g b->(∀h u,KeepsFrom a.heap.size b u->k b u->j g u->E c h u->Q h u)->
  assign.wpIn (F.inRound l) (n-1-1) P (Exit.then Q (λ_ _ _=>False)) {tmps:=(B.zip (z c)).foldl (λac (aN,ad)=>ac.setIfInBounds aN ad) p.tmps,defers:=[]} b)
 (aq:∀(l:Nat) (g:List α) (c:α) (h:Act) (b:World),a.heap.size<=l->(∃d,b.heap[l]? =some (.loop d))->j g b->E c h b->g.length<R->body.wpIn (F.inRound l) (n-1-1) P (ownPostG a k j (λ_ _ _=>False) (g++[c]) b) h b)
 (au:∀(G:Nat) (D:List α) (b:World),a.heap.size<=G->H D b->j D b->b.heap[G]? =some (.deferred (some []))->S .normal {p with defers:={target:=.collected G,args:=#[]}::p.defers} b):
 (Code.rangeFunc U B assign body).wpIn F n P S p a:=by
 refine wpIn_rangeFunc λfn av=>?_
 rw[aH]
 let i:LoopState->Option Code->Loop:=λaP aO=>{state:=aP,pending:=aO,fn,tmps:=p.tmps,params:=B,assign,body,defers:=a.heap.size}
 let m:World:=a.alloc (.deferred (some []))
 let f:World:=m.alloc (.loop (i .ready none))
 have M:m.heap.size=a.heap.size+1:=size_alloc _ _
 have af:f.heap[a.heap.size]? =some (.deferred (some [])):=(Below.heap_alloc _ _ _ (by rw[M];omega)).trans (alloc_heap_new a _)
 have aL:f.heap[a.heap.size+1]? =some (.loop (i .ready none)):=by have:=alloc_heap_new m (.loop (i .ready none));rwa[M] at this
 have aX:f.heap.size=a.heap.size+2:=by rw[size_alloc,M]
 refine⟨a.heap.size+1,[{target:=.collected a.heap.size,args:=#[]}],f,{target:=.fn (.func gf) lb,args:=#[.func (.yield (a.heap.size+1)) #[] #[]]},f,gf,#[.func (.yield (a.heap.size+1)) #[] #[]]++lb,f,run_enterLoop_outer _ _ _ _ _,by simp only[resolve,aw];simp[go_sem],?_,by simp[invoke,go_sem,ag],λ_=>ai,?_⟩
 .intro aU X
  simp[Target.leads] at X
  subst X
  exact am
 have aQ:∀{y:World} {C:Option Nat},(∀d,C=some d->f.heap.size<=d/\∃o:Obj,y.heap[d]? =some o/\o.isWalk=true)->∀d,C=some d->a.heap.size<=d/\∃o:Obj,y.heap[d]? =some o/\o.isCells=false:=λw d e=>by
  obtain⟨aV,o,aF,aJ⟩:=w d e
  exact⟨WB,o,aF,Obj.not_cells_of_walk aJ⟩
 refine(aI (a.heap.size+1) (λg b=>j g b/\b.heap[a.heap.size+1]? =some (.loop (i .ready none))/\b.heap[a.heap.size]? =some (.deferred (some []))) f (W.trans ((((Below.refl _ a).alloc (le_refl _) _).alloc (by rw[size_alloc];omega) _).mono W.size)) (λab y ae C x J w=>⟨q ab y ae C x.1 J (aQ w),(grownBy_keeps J (λd e=>(w d e).2) x.2.1 rfl).trans x.2.1,(grownBy_keeps J (λd e=>(w d e).2) x.2.2 rfl).trans x.2.2⟩) ?_ ⟨q.alloc _ (q.alloc _ ah),aL,af⟩).mono ?_
 .rintro g c b an ⟨K,r,L⟩ aD
  refine⟨fn,_,assign,body,run_yield (P:=P) (args:=z c) r (aG c),roundIn_of_wpIn av (ao _ g c b _ an K λh t Z aB ay ap=>?_)⟩
  have v:=Z.same _ _ WB r rfl
  have aA:=Z.same _ _ (le_refl _) L rfl
  have aE:=(Array.getElem?_eq_some_iff.1 v).1
  refine⟨_,run_beginRound v rfl,?_⟩
  have aa:(t.putObj (a.heap.size+1) (.loop {i .ready none with state:=.busy})).heap[a.heap.size+1]? =some (.loop {i .ready none with state:=.busy}):=putObj_heap_same aE
  have az:(t.putObj (a.heap.size+1) (.loop {i .ready none with state:=.busy})).heap[a.heap.size]? =some (.deferred (some [])):=(putObj_heap_other WB).trans aA
  have aK:k t (t.putObj (a.heap.size+1) (.loop {i .ready none with state:=.busy})):=V _ _ _ _ WB v rfl rfl
  refine wpIn_mono (aq _ g c h _ WB ⟨_,aa⟩ (q.putObj _ ay WB v rfl) ((aj c h).putObj (s:=()) _ ap WB v rfl) aD) ?_
  rintro e aS aR s
  cases e with
  |normal=>
   obtain⟨Y,aC,ax⟩:=s
   have A:=Y.same _ _ WB aa rfl
   have ar:=Y.same _ _ (le_refl _) az rfl
   exact⟨_,_,run_endRound (P:=P) none A,rfl,⟨q.putObj _ ax WB A rfl,putObj_heap_same (Array.getElem?_eq_some_iff.1 A).1,(putObj_heap_other WB).trans ar⟩,I aB (I (I aK aC) (V _ _ _ _ WB A rfl rfl))⟩
  |ret=>exact s.2.elim
  |exit aW=>exact s.2.elim
  |goto ac=>exact s.2.elim
  |panic aT=>exact s.elim
  |outgrown=>exact s.elim
 rintro e t ⟨⟨ad,rfl⟩,D,al,K,r,L⟩
 exact⟨none,_,run_endLoop (P:=P) r (by simp[i]),au _ D _ (le_refl _) (ak.putObj _ al WB r rfl) (q.putObj _ K WB r rfl) ((putObj_heap_other WB).trans L)⟩
variable {F:Fence} {n:Nat} {P:Program}
def Ca{α:Type}(F:Fence)(n:Nat)(P:Program)(g:Nat)(lb:Array Value)(encs:α->Array Value)(R:α->World->Prop)(Kp S:World->World->Prop)(O:World->Prop)(E:List α->World->Prop)(N:Nat)(w:World):Prop:=
 ∀(l:Nat) (J:List α->World->Prop) (W:World),Below w w W->AbidesFrom W.heap.size J->(∀pre A B,J pre A->S A B->J pre B)->(∀pre A,J pre A->O A)-> (∀pre x W1,R x W1->J pre W1->pre.length<N->YieldAt F (n-1) P l (encs x) W1 λe W'=>e=.returned (.bool true)/\J (pre++[x]) W'/\Kp W1 W')-> J [] W->CallsIn F n P g (#[.func (.yield l) #[] #[]]++lb) W λe W'=>(∃v,e=.returned v)/\∃xs,E xs W'/\J xs W'
theorem WI(h:p:=by omega):p:=h
theorem Jv{α:Type}{Y:Operand}{C:Array Tmp}{assign body:Code}{W:Exit->Act->World->Prop}{r:Act}{a:World}(aO:F.round=none)(an:1<=n){gf:Nat}{lb:Array Value}(aD:r.eval Y=.func (.func gf) #[] lb)(ar:F.fn gf)(al:∀args a,(callFunc gf args).run P a=.ok (.enter gf args) a){A:α->Array Value}{X:α->World->Prop}{q J:World->World->Prop}{V:World->Prop}{I:List α->World->Prop}{U:Nat}{R:World}(aP:Ca F (n-1) P gf lb A X q J V I U R)(K:∀{f c S:World},q f c->q c S->q f S)(Z:∀(b:World) (l:Nat) (o aT:Obj),a.heap.size<=l->b.heap[l]? =some o->o.isCells=false->o.isWalk=false->q b (b.putObj l aT))(ab:Below R R a)(aN:∀g,(A g).size=C.size)(aa:∀{f c:World},J f c->∀(k:Nat) (o:Obj),f.heap[k]? =some o->o.isCells=false->c.heap[k]? =some o)(i:List α->World->Prop)(aw:∀d f c,i d f->J f c->i d c)(au:∀d f,i d f->V f)(s:OwnFrom a.heap.size i)(ap:OwnFrom a.heap.size I)(am:i [] a)(G:α->Act->World->Prop)(ao:∀g m,OwnFrom a.heap.size (fun(_:Unit) b=>G g m b))
 (ax:∀(l:Nat) (d:List α) (g:α) (b:World) (T:Act->World->Prop),X g b->i d b->(∀m w,KeepsFrom a.heap.size b w->q b w->i d w->G g m w->T m w)->
  assign.wpIn (F.inRound l) (n-1-1) P (Exit.then T (λ_ _ _=>False)) {tmps:=(C.zip (A g)).foldl (λah (aU,ai)=>ah.setIfInBounds aU ai) r.tmps,defers:=[]} b)
 (az:∀(l:Nat) (d:List α) (g:α) (m:Act) (b:World),a.heap.size<=l->(∃h,b.heap[l]? =some (.loop h))->i d b->G g m b->d.length<U->body.wpIn (F.inRound l) (n-1-1) P (ownPostG a q i (λ_ _ _=>False) (d++[g]) b) m b)
 (aB:∀(H:Nat) (E:List α) (b:World),a.heap.size<=H->I E b->i E b->b.heap[H]? =some (.deferred (some []))->W .normal {r with defers:={target:=.collected H,args:=#[]}::r.defers} b):
 (Code.rangeFunc Y C assign body).wpIn F n P W r a:=by
 refine wpIn_rangeFunc λfn aC=>?_
 rw[aO]
 let p:LoopState->Option Code->Loop:=λaW aV=>{state:=aW,pending:=aV,fn,tmps:=r.tmps,params:=C,assign,body,defers:=a.heap.size}
 let f:World:=a.alloc (.deferred (some []))
 let c:World:=f.alloc (.loop (p .ready none))
 have Q:f.heap.size=a.heap.size+1:=size_alloc _ _
 have ak:c.heap[a.heap.size]? =some (.deferred (some [])):=(Below.heap_alloc _ _ _ (by rw[Q];omega)).trans (alloc_heap_new a _)
 have aS:c.heap[a.heap.size+1]? =some (.loop (p .ready none)):=by have:=alloc_heap_new f (.loop (p .ready none));rwa[Q] at this
 have a4:c.heap.size=a.heap.size+2:=by rw[size_alloc,Q]
 refine⟨a.heap.size+1,[{target:=.collected a.heap.size,args:=#[]}],c,{target:=.fn (.func gf) lb,args:=#[.func (.yield (a.heap.size+1)) #[] #[]]},c,gf,#[.func (.yield (a.heap.size+1)) #[] #[]]++lb,c,run_enterLoop_outer _ _ _ _ _,by simp only[resolve,aD];simp[go_sem],?_,by simp[invoke,go_sem,al],λ_=>an,?_⟩
 .intro a1 ac
  simp[Target.leads] at ac
  subst ac
  exact ar
 have aX:∀{z:World} {D:Option Nat},(∀h,D=some h->c.heap.size<=h/\∃o:Obj,z.heap[h]? =some o/\o.isWalk=true)->∀h,D=some h->a.heap.size<=h/\∃o:Obj,z.heap[h]? =some o/\o.isCells=false:=λy h e=>by
  obtain⟨a2,o,aM,aQ⟩:=y h e
  exact⟨WI,o,aM,Obj.not_cells_of_walk aQ⟩
 refine(aP (a.heap.size+1) (λd b=>i d b/\b.heap[a.heap.size+1]? =some (.loop (p .ready none))/\b.heap[a.heap.size]? =some (.deferred (some []))) c (ab.trans ((((Below.refl _ a).alloc (le_refl _) _).alloc (by rw[size_alloc];omega) _).mono ab.size)) (λag z aj D j M y=>⟨s ag z aj D j.1 M (aX y),(grownBy_keeps M (λh e=>(y h e).2) j.2.1 rfl).trans j.2.1,(grownBy_keeps M (λh e=>(y h e).2) j.2.2 rfl).trans j.2.2⟩) (λd f c j L=>⟨aw _ _ _ j.1 L,aa L _ _ j.2.1 rfl,aa L _ _ j.2.2 rfl⟩) (λd f j=>au _ _ j.1) ?_ ⟨s.alloc _ (s.alloc _ am),aS,ak⟩).mono ?_
 .rintro d g b av ⟨N,t,O⟩ aK
  refine⟨fn,_,assign,body,run_yield (P:=P) (args:=A g) t (aN g),roundIn_of_wpIn aC (ax _ d g b _ av N λm v ae aI aF ay=>?_)⟩
  have x:=ae.same _ _ WI t rfl
  have aH:=ae.same _ _ (le_refl _) O rfl
  have aL:=(Array.getElem?_eq_some_iff.1 x).1
  refine⟨_,run_beginRound x rfl,?_⟩
  have af:(v.putObj (a.heap.size+1) (.loop {p .ready none with state:=.busy})).heap[a.heap.size+1]? =some (.loop {p .ready none with state:=.busy}):=putObj_heap_same aL
  have aG:(v.putObj (a.heap.size+1) (.loop {p .ready none with state:=.busy})).heap[a.heap.size]? =some (.deferred (some [])):=(putObj_heap_other WI).trans aH
  have aR:q v (v.putObj (a.heap.size+1) (.loop {p .ready none with state:=.busy})):=Z _ _ _ _ WI x rfl rfl
  refine wpIn_mono (az _ d g m _ WI ⟨_,af⟩ (s.putObj _ aF WI x rfl) ((ao g m).putObj (s:=()) _ ay WI x rfl) aK) ?_
  rintro e aZ aY u
  cases e with
  |normal=>
   obtain⟨ad,aJ,aE⟩:=u
   have B:=ad.same _ _ WI af rfl
   have aA:=ad.same _ _ (le_refl _) aG rfl
   exact⟨_,_,run_endRound (P:=P) none B,rfl,⟨s.putObj _ aE WI B rfl,putObj_heap_same (Array.getElem?_eq_some_iff.1 B).1,(putObj_heap_other WI).trans aA⟩,K aI (K (K aR aJ) (Z _ _ _ _ WI B rfl rfl))⟩
  |ret=>exact u.2.elim
  |exit a3=>exact u.2.elim
  |goto ah=>exact u.2.elim
  |panic a0=>exact u.elim
  |outgrown=>exact u.elim
 rintro e v ⟨⟨ai,rfl⟩,E,aq,N,t,O⟩
 exact⟨none,_,run_endLoop (P:=P) t (by simp[p]),aB _ E _ (le_refl _) (ap.putObj _ aq WI t rfl) (s.putObj _ N WI t rfl) ((putObj_heap_other WI).trans O)⟩
