import Derived.Deep.RegionHeld3
import Derived.Deep.AppendLies
import Derived.Test.YtlfccloaoopadagGreatDoorG23
open Go.Proofs.Tryz
set_option maxRecDepth 100000
set_option maxHeartbeats 0
open List (any_eq_true length_map mem_append mem_map mem_singleton)
open Nat (le_refl)
open Prod (fst)
namespace Go.Proofs.YtlfccloaoopadagGreatDoor
open Go.ChangeShapes Go.WideShapes Go.ChangeAt Go.RowKit Go.Maps
variable{p:Prop}
def iL(r:Rul)(v:Int):Bool:=decide (0<eN (dZ r.body true++[r.head]) v)&&eN (dZ r.body false) v==0
def kK(r:Rul):Bool:=iL r 0||(iL r 1||iL r 2)
theorem p9.a{h wr:World}{d g b}(i:p9 h wr d g b):∃l:List (Atm×Value),l.length=b.length/\l.map fst=b/\(∀c∈l,cr h c.2 c.1.args/\c.2.oneCell'=true)/\wr.ownsRow d 55 2 g l (j6 l):=by
 obtain⟨l,f,j,k⟩:=i;exact⟨l,by rw[<-f,length_map],f,j,k⟩
theorem p9.b{d wr:World}{h g c}(i:p9 d wr h g c)(l:Below d d wr)(f:c.length<=140737488355328):tf wr g c:=by
 obtain⟨p,o,rfl,j,k⟩:=i.a;rw[length_map] at f;exact FH k f (λn m=>cr.a l (j n m).1)
theorem KB{b f a}(c:a∈dZ b f):∃l∈b,l.atom=a:=by
 obtain⟨l,d,rfl⟩:=mem_map.1 c;exact⟨l,(List.mem_filter.1 d).1,rfl⟩
theorem CF(a b):(dZ a b).length<=a.length:=by
 rw[dZ,length_map];exact List.length_filter_le _ _
theorem Kx{m:World}{g b}(j:dC m g b):∀l∈b,l.atom.args.length<=140737488355328:=by
 obtain⟨h,i,rfl,d,a⟩:=j;intro l c;rcases a with rfl|⟨n,o,_,_,a⟩
 .cases c
 obtain⟨f,k,rfl⟩:=List.mem_iff_getElem.1 c;obtain⟨_,_,g,_,h,i,_,d,_⟩:=a f b[f] (by simp[k]);exact d
theorem KF{f:World}{d a}(b:cr f d a):a.length<=140737488355328:=by
 obtain⟨g,h,rfl,c,i⟩:=b;exact c
theorem Kz{f:World}{b base' e c d n g}(k:f.ownsRow b e c d n g)(p:base'<=b):f.ownsRow base' e c d n g:=by
 obtain⟨l,a⟩:=k;refine⟨l,?_⟩;rcases a with a|⟨j,h,i,a,m,o⟩
 .exact .inl a
 exact .inr ⟨j,h,i,a,Nat.le_trans p m,o⟩
theorem CD{d:World}{f g h}:∀(b:Nat) (c:Value),[f,g][b]? =some c->(d.alloc (.cells #[f,g] h)).cell? ((⟨d,0,none⟩:Addr).add b)=some c:=by
 intro b c a;match b,a with
 |0,a=>simp at a;subst a;simp[Addr.add,go_sem]
 |1,a=>simp at a;subst a;simp[Addr.add,go_sem]
theorem Ky{w c:World}{d f t}(g:Below (w.heap.size+1) (w.alloc (.cells #[d,f] t)) c):∀(a:Nat) (b:Value),[d,f][a]? =some b->c.cell? ((⟨w,0,none⟩:Addr).add a)=some b:=by
 intro a b h;rw[<-CD a b h];refine g.cell ?_;unfold Addr.add;split<;>simp
theorem CE{c d:Value}(f:c.oneCell'=true)(g:d.oneCell'=true):∀b∈[c,d],b.oneCell'=true:=by
 intro b a;simp at a;rcases a with rfl|rfl<;>assumption
theorem Ki{f i:World}{g k j}{l:List (Atm×Value)}{b p d h}(q:i.ownsRow g 55 2 (.slice (some ⟨k,0,none⟩) (l.length+1) j) (l.length+1) (j6 l++[.int .i64 p,h]))(n:l.map fst=b)(r:∀c∈l,cr f c.2 c.1.args/\c.2.oneCell'=true)(o:cr f h d)(m:Below f f i)(s:b.length<=3):tf i (.slice (some ⟨k,0,none⟩) (l.length+1) j) (b++[⟨p,d⟩]):=by
 have e:(l++[((⟨p,d⟩:Atm),h)]).map fst=b++[⟨p,d⟩]:=by rw[List.map_append,n];rfl
 have t:l.length=b.length:=by rw[<-n,length_map]
 rw[<-e];refine FH (base:=g) (e:=55) (by rw[zj,List.length_append];exact q) (by rw[List.length_append];simp;omega) ?_;intro c hx;rcases mem_append.1 hx with hx|hx
 .exact cr.a m (r c hx).1
 obtain rfl:=mem_singleton.1 hx;exact cr.a m o
theorem CC{c:World}{g n:Nat}{d:DataW Unit}{f:Int->Nat}(j:jt c g n d)(k:jP d f)(a:Int)(h:0<=a)(i:a<=2):(Instr.lookup 232 (.map (some g)) a false).run prog c=.ok (.int .i64 (f a:Nat)) c:=by
 obtain⟨m,l,b,_⟩:=j.lookup_int p_ underlying232 underlying3 (qf _) (keyOf_int_mk underlying3 (rK h i));rw[k.2 a h i] at b;simp at b;rw[b];exact l
theorem Kv{b a c:World}{g h i}(f:b.heap.size<a.heap.size)(j:a.cell? b=some g)(k:a.cell? ⟨b,1,none⟩=some h)(l:a.cell? ⟨b,4,none⟩=some i)(d:Below a a c):Below a a c/\c.cell? b=some g/\c.cell? ⟨b,1,none⟩=some h/\c.cell? ⟨b,4,none⟩=some i:=
 ⟨d,by rw[bF d f,j],by rw[bF d f,k],by rw[bF d f,l]⟩
theorem Ua(h:p:=by rw[hb1.cell (p:=⟨w,0,none⟩) (by simp)];simp[go_sem]):p:=h
theorem Ub(h:p:=by rw[hb1.cell (p:=⟨w,1,none⟩) (by simp)];simp[go_sem]):p:=h
theorem Uc(h:p:=by rw[hb1.cell (p:=⟨w,4,none⟩) (by simp)];simp[go_sem]):p:=h
theorem Ud(h:p:=by have:=hb2.size;omega):p:=h
theorem Ue(h:p:=by (first|exact Below.refl _ _|exact(Below.refl _ _).drew|exact(Below.refl _ _).alloc (le_refl _) _|exact((Below.refl _ _).alloc (le_refl _) _).drew|exact((Below.refl _ _).drew).alloc (Nat.le_refl _) _|exact hk3|exact hk3.drew|exact hk3.alloc hk3.size _|exact(hk3.alloc hk3.size _).drew|exact(hk3.drew).alloc hk3.size _|exact hk4|exact hk5)):p:=h
theorem Uf(h:p:=by have:=hk3.size;simp;omega):p:=h
theorem Ug(h:p:=by rfl):p:=h
theorem aez(h:p:=by
 go_wp2_with fail
 go_round
 case rel=>exact⟨j+1,Q0,Rv,HN'.out⟩
 exact adT):p:=h
theorem Ku(w:World)(c ha o Y)(H:cr w (.slice ha c.head.args o) c.head.args)(F:dC w Y c.body)(Z:c.body.length<=3)(ai:c.head.args.all db=true)(aj:∀l∈c.body,l.atom.args.all db=true):Calls prog 164 #[.agg #[c.head.pred,.slice ha c.head.args o,c.src,c.n,Y]] w λe s=>e=.returned (.bool (kK c))/\Below w w s:=by
 obtain⟨ao,I,L,M,N⟩:=info_parts Cz;have aD:=hid_ H;have T:=hid_ F;have am:=Kx F;have an:=KF H
 have X:Hid (∀ap,∀i∈dZ c.body ap,i.args.length<=140737488355328/\i.args.all db=true):=by
  intro ap i ha;obtain⟨l,ah,rfl⟩:=KB ha;exact⟨am l ah,aj l ah⟩
 have aH:Hid (∀i∈dZ c.body true++[c.head],i.args.length<=140737488355328/\i.args.all db=true):=by
  intro i ha;rcases mem_append.1 ha with ha|ha
  .exact X true i ha
  obtain rfl:=mem_singleton.1 ha;exact⟨an,ai⟩
 have a0:=CF c.body false;have a1:=CF c.body true;obtain⟨B,C,rfl,_⟩:=F;clear H am an ai aj;go_enter func164,ntmps164;go_wp2_with fail;refine(Cr w _ _ c.body false T RK Z).mono ?_;rintro e x ⟨a4,rfl,af,hb1⟩;have ab:=cU (bH _ _) hb1;have au:x.cell? w=some (.int .i64 c.head.pred):=Ua;have av:x.cell? ⟨w,1,none⟩=some (.slice ha c.head.args o):=Ub;have aw:x.cell? ⟨w,4,none⟩=some (.slice B c.body C):=Uc;have K:w.heap.size<x.heap.size:=by have:=hb1.size;simp at this;omega
 have S:=hid_ (af.b ab Q0);clear af hb1;go_wp2_with fail;refine(CN _ _ _ S Q0 (X false)).mono ?_;rintro e d ⟨rfl,hb2,aS,aA,ak,ad⟩;have aE:Hid (∀k,Below d d k->jt k x aS aA):=λk m=>qd ak m;have aB:=hid_ ad;have ax:d.cell? w=some (.int .i64 c.head.pred):=by rw[bF hb2 K,au]
 have ay:d.cell? ⟨w,1,none⟩=some (.slice ha c.head.args o):=by rw[bF hb2 K,av]
 have az:d.cell? ⟨w,4,none⟩=some (.slice B c.body C):=by rw[bF hb2 K,aw]
 have u:=bt_ ab hb2;have aR:w.heap.size<d.heap.size:=Ud;clear au av aw S ak ad;go_wp2_with fail
 go_region_held3 (λs=>Below d d s/\s.cell? w=some (.int .i64 c.head.pred)/\s.cell? ⟨w,1,none⟩=some (.slice ha c.head.args o)/\s.cell? ⟨w,4,none⟩=some (.slice B c.body C))
  ((refine Kv aR ax ay az ?_;(first|exact Below.refl _ _|exact(Below.refl _ _).drew|exact(Below.refl _ _).alloc (le_refl _) _|exact((Below.refl _ _).alloc (le_refl _) _).drew|exact((Below.refl _ _).drew).alloc (le_refl _) _|exact hk3|exact hk3.drew|exact hk3.alloc hk3.size _|exact(hk3.alloc hk3.size _).drew|exact(hk3.drew).alloc hk3.size _|exact hk4|exact hk5)))
  (first
   |(go_at_call 206;refine(Cr w _ _ c.body true T (u.trans (Below.mono Ue u.size)) Z).mono ?_;rintro e k ⟨aq,rfl,ag,G⟩;have hk3:Below d d k:=Below.trans Ue (G.mono Q1);obtain⟨q,hl0,hl1,hl2,hl3⟩:=ag.a;have v:=Kz (base':=d.heap.size) hl3 Q1;have aP:q.length<=3:=Q0;have V:Hid (q.map fst=dZ c.body true):=hl1;have W:Hid (∀Q∈q,cr w Q.2 Q.1.args/\Q.2.oneCell'=true):=hl2;clear ag hl0 hl1 hl2 hl3)
   |(refine step_append_lies _ Ug _ _ 259 Ug d 55 ao (.agg #[.int .i64 0,.slice none 0 0]) 2 32 underlying259 I L M N Ug Q0 aq q (j6 q) Ug (v.alloc _) ⟨k,0,none⟩ 1 1 [.int .i64 c.head.pred,.slice ha c.head.args o] Ug Ug CD (CE rfl rfl) Q0 TZ Q0 Uf (k.heap.size+1) Q1 ?_;intro aK aJ P J z aa aQ;have hk4:Below d d P:=(hk3.alloc hk3.size _).grown z Uf (λf g=>(v.lt f g).1))
   |(refine step_append_lies _ Ug _ _ 259 Ug d 55 ao (.agg #[.int .i64 0,.slice none 0 0]) 2 32 underlying259 I L M N Ug Q0 aq q (j6 q) Ug v ⟨d,0,none⟩ 1 1 [.int .i64 c.head.pred,.slice ha c.head.args o] Ug Ug (Ky (w:=d) (t:=55) (Below.trans (Below.drew (Below.refl _ _)) (G.mono Q1))) (CE rfl rfl) Q0 TZ Q0 Uf k Q1 ?_;intro aK aJ P J z aa aQ;have hk4:Below d d P:=hk3.grown z Uf (λf g=>(v.lt f g).1))
   |(go_at_call 205;refine(CN _ _ (dZ c.body true++[c.head]) (Ki J V W aD (u.trans (hk4.mono u.size)) Q0) RD aH.out).mono ?_;rintro e ar ⟨rfl,aO,a2,aT,al,ae⟩;have hk5:Below d d ar:=hk4.trans (aO.mono hk4.size)))
 all_goals
  have aF:=hid_ (aE ar hk5);have aG:=hid_ al;have aC:=hid_ ae;have ac:=bt_ u hk5;clear al ae J z aa G v aP V W ax ay az I L M N;go_wp2_with fail;go_loop [18] (λO=>∃j:Nat,j<=3/\O=.int .i64 j/\∀f:Nat,f<j->iL c (f:Int)=false) (λO=>3-(intOf O).toNat)
  case atStart=>exact⟨0,Nat.zero_le _,rfl,λf g=>absurd g (Nat.not_lt_zero _)⟩
  obtain⟨j,aY,rfl,r⟩:=hrel;by_cases aZ:j<3
  .have aU:=CC aF aB (j:Int) Q0 Q0;have aV:=CC aG aC (j:Int) Q0 Q0;have h:Hid (iL c (j:Int)=(decide (0<eN (dZ c.body true++[c.head]) (j:Int))&&eN (dZ c.body false) (j:Int)==0)):=rfl;have U:=hid_ r
   have y:Hid (iL c (j:Int)=true->kK c=true):=by
    intro m;rcases(show j=0\/j=1\/j=2 by omega) with rfl|rfl|rfl
    .simp only[kK];rw[show iL c 0=true from m];rfl
    .simp only[kK];rw[show iL c 1=true from m];simp
    simp only[kK];rw[show iL c 2=true from m];simp
   have t:Hid (iL c (j:Int)=false->∀f:Nat,f<j+1->iL c (f:Int)=false):=by
    intro m f g;rcases Nat.lt_succ_iff_lt_or_eq.1 g with g|rfl
    .exact U f g
    exact m
   clear r U;generalize eN (dZ c.body true++[c.head]) (j:Int)=A at*;generalize eN (dZ c.body false) (j:Int)=R at*;by_cases D:0<A
   .have aW:(0:Int)<(A:Int):=Q0;by_cases E:R=0
    .subst E;have aI:=hid_ (y (by rw[h.out];simp[D]));clear h y t;go_wp2_with fail;go_ret;exact⟨pz aI.out.symm,ac⟩
    have HN':=hid_ (t (by rw[h.out];simp[E]));have aX:(((R:Nat):Int)==0)=false:=RD;clear h y t E;exact aez
   have HN':=hid_ (t (by rw[h.out];simp[D]));obtain rfl:A=0:=Q0;clear h y t D;exact aez
  have h:Hid (kK c=false):=by
   show kK c=false;have aL:iL c 0=false:=r 0 Q0;have aM:iL c 1=false:=r 1 Q0;have aN:iL c 2=false:=r 2 Q0;rw[kK,aL,aM,aN];rfl
  clear r;go_wp2_with fail;go_ret;exact⟨pz h.out.symm,ac⟩
theorem Ko{ts v}:0<iK ts v↔ff ts v=true:=by
 rw[iK,List.countP_pos_iff,ff,any_eq_true]
theorem uv:∀{ats:List Atm} {v:Int},0<eN ats v↔∃a∈ats,ff a.args v=true
 |[],v=>by simp[eN]
 |a::c,v=>by
  have ih:=uv (ats:=c) (v:=v)
  have f:=Ko (ts:=a.args) (v:=v)
  have e:eN (a::c) v=iK a.args v+eN c v:=by simp[eN]
  rw[e]
  constructor
  .intro h
   by_cases g:0<iK a.args v
   .exact⟨a,Q1,f.1 g⟩
   obtain⟨d,hx,b⟩:=ih.1 Q0
   exact⟨d,by simp[hx],b⟩
  rintro⟨d,hx,b⟩
  rcases List.mem_cons.1 hx with rfl|hx
  .have:=f.2 b;omega
  have:=ih.2 ⟨d,hx,b⟩;omega
theorem uz{f g d}:d∈dZ f g↔∃l∈f,l.neg=g/\l.atom=d:=by
 simp only[dZ,mem_map,List.mem_filter,beq_iff_eq];constructor
 .rintro⟨l,⟨a,b⟩,c⟩;exact⟨l,a,b,c⟩
 rintro⟨l,a,b,c⟩;exact⟨l,⟨a,b⟩,c⟩
theorem Uh(h:p:=by simp only[k8,hn,Bool.not_false,Bool.true_and];exact hs):p:=h
theorem xB(a b):iL a b=eW a b:=by
 have h:jQ a b=true↔0<eN (dZ a.body false) b:=by
  rw[uv,jQ,any_eq_true];constructor
  .rintro⟨c,d,g⟩;simp only[k8,Bool.and_eq_true,Bool.not_eq_true'] at g;exact⟨c.atom,uz.2 ⟨c,d,g.1,rfl⟩,g.2⟩
  rintro⟨i,ha,hs⟩;obtain⟨c,d,hn,rfl⟩:=uz.1 ha;exact⟨c,d,Uh⟩
 have ha:0<eN (dZ a.body true++[a.head]) b->dj a b=true:=by
  rw[uv];rintro⟨i,ha,hs⟩;simp only[dj,Bool.or_eq_true];rcases mem_append.1 ha with ha|ha
  .obtain⟨c,d,_,rfl⟩:=uz.1 ha;exact .inr (any_eq_true.2 ⟨c,d,hs⟩)
  obtain rfl:=mem_singleton.1 ha;exact .inl hs
 have j:dj a b=true->jQ a b=false->0<eN (dZ a.body true++[a.head]) b:=by
  intro h1 f;rw[uv];simp only[dj,Bool.or_eq_true] at h1;rcases h1 with h1|h1
  .exact⟨a.head,Q1,h1⟩
  obtain⟨c,d,hs⟩:=any_eq_true.1 h1;cases hn:c.neg
  .have:jQ a b=true:=any_eq_true.2 ⟨c,d,Uh⟩;rw[this] at f;cases f
  exact⟨c.atom,mem_append.2 (.inl (uz.2 ⟨c,d,hn,rfl⟩)),hs⟩
 rw[Bool.eq_iff_iff];simp only[iL,eW,Bool.and_eq_true,decide_eq_true_eq,beq_iff_eq,Bool.not_eq_true'];constructor
 .rintro⟨h1,f⟩;refine⟨ha h1,?_⟩;cases k:jQ a b
  .rfl
  have:=h.1 k;omega
 rintro⟨h1,f⟩;refine⟨j h1 f,?_⟩;have:¬0<eN (dZ a.body false) b:=λg=>by rw[h.2 g] at f;cases f
 omega
theorem Cw(a):kK a=(eW a 0||(eW a 1||eW a 2)):=by rw[kK,xB,xB,xB]
theorem Ct(w:World)(ad d c aa R)(Y:bR w ad d)(X:cr w aa c.head.args)(V:dC w R c.body):Calls prog 118 #[ad,.agg #[c.head.pred,aa,c.src,c.n,R]] w λe aj=>e=.returned (.int .i64 (cx d c))/\Below w w aj:=by
 have m:=lp_ Y;have y:=lt_ X;have Q:=lb_ V;obtain⟨A,D,rfl,_⟩:=X;obtain⟨av,aw,rfl,_⟩:=Y;obtain⟨q,r,rfl,am,v⟩:=V;have o:=hid_ v;clear v;by_cases h1:cf d c.head=0
 .by_cases z:3<c.body.length
  .rw[CJ h1 z];have T:cf d ⟨c.head.pred,c.head.args⟩=0:=h1;have ah:(3:Int)<(c.body.length:Int):=Q0;clear h1 o;go_enter func118,ntmps118;go_wp2_with fail;refine mo_ (rH _ _ _ d _ _ (m _ RK) (y _ RK)) λx hb1=>?_;have S:x.cell? ⟨w,4,none⟩=some (.slice q c.body r):=Uc;go_wp2_with fail;go_ret;exact⟨rfl,cU (bH _ _) hb1⟩
  have T:cf d ⟨c.head.pred,c.head.args⟩=0:=h1;have l:=hid_ h1;have ah:¬(3:Int)<(c.body.length:Int):=Q0;clear h1;go_enter func118,ntmps118;go_wp2_with fail;refine mo_ (rH _ _ _ d _ _ (m _ RK) (y _ RK)) λx hb1=>?_;have S:x.cell? ⟨w,4,none⟩=some (.slice q c.body r):=Uc;have ae:Hid (Below (w.heap.size+1) (w.alloc (.cells #[c.head.pred,.slice A c.head.args D,c.src,c.n,.slice q c.body r] 58)) x):=hb1.mono Q1;clear hb1;go_wp2_with fail;clear S;go_loopw [23] (λJ wr=>∃f:Nat,f<=c.body.length/\J=.int .i64 f/\(c.body.take f).all (g8 d)=true/\ Below (w.heap.size+1) (w.alloc (.cells #[c.head.pred,.slice A c.head.args D,c.src,c.n,.slice q c.body r] 58)) wr) (λJ _=>c.body.length-(intOf J).toNat)
  case atStart=>exact⟨0,Nat.zero_le _,rfl,rfl,ae.out⟩
  obtain⟨f,al,rfl,hall,hbr⟩:=hrel;have h:=(bH _ _).trans (hbr.mono Q0);by_cases hlt:f<c.body.length
  .obtain⟨ag,au,rfl,ai,v⟩:=o.out.resolve_left RH;obtain⟨ao,ap,aC,aD,aq,Z⟩:=(oL.b w wr ag _ _ h ai (v f c.body[f] Ru)).a;have E:Hid ((c.body.take (f+1)).all (g8 d)=g8 d c.body[f]):=Rw;have F:=hid_ (λk=>CG l z hlt hall k);clear v hall o;generalize c.body[f]=j at*;obtain⟨ar,ab,ac⟩:=j;have af:=lt_ Z;clear Z;go_wp2_with fail;refine mo_ (rH _ _ _ d _ _ (m _ (h.alloc h.size _)) (af _ RK)) λak g=>?_;have C:=cU (bH _ _) g;clear g;by_cases k:cf d ⟨ab,ac⟩=0
   .have i:Hid ((c.body.take (f+1)).all (g8 d)=true):=by show _=_;rw[E.out,g8];simpa using k
    clear E F;go_wp2_with fail;go_roundw
    case rel=>exact⟨f+1,Q0,Rv,i.out,hbr.trans (C.mono RI)⟩
    exact adT
   have i:=hid_ (F k);have an:(cf d ⟨ab,ac⟩ != 0)=true:=by simpa using k
   clear E F k;go_wp2_with fail;go_ret;exact⟨eJ i.out.symm,h.trans (C.mono h.size)⟩
  have B:=nQ hlt hall;have U:=λj t=>gP (by have:=List.all_eq_true.1 B j t;simpa[g8] using this);have P:=hid_ U;have G:=hid_ (λI=>CH l z B (by rw[<-Cw];exact I));have H:=hid_ (λI=>CK l z B (by rw[<-Cw];exact I));clear hall B U o;have K:wr.cell? w=some (.int .i64 c.head.pred):=by rw[hbr.cell (p:=⟨w,0,none⟩) Q1];simp[go_sem]
  have L:wr.cell? ⟨w,1,none⟩=some (.slice A c.head.args D):=by rw[hbr.cell (p:=⟨w,1,none⟩) Q1];simp[go_sem]
  have M:wr.cell? ⟨w,2,none⟩=some (.int .i64 c.src):=by rw[hbr.cell (p:=⟨w,2,none⟩) Q1];simp[go_sem]
  have N:wr.cell? ⟨w,3,none⟩=some (.int .i64 c.n):=by rw[hbr.cell (p:=⟨w,3,none⟩) Q1];simp[go_sem]
  have O:wr.cell? ⟨w,4,none⟩=some (.slice q c.body r):=RG;have u:w.heap.size<wr.heap.size:=RI;go_wp2_with fail;refine mo_ (Ku _ c A D _ (y _ h) (Q _ h) Q0 (gP l.out).2 (λj t=>(P j t).2)) λak g=>?_;have s:=bt_ h g;cases W:kK c
  .have i:=hid_ (H W);clear G H;have ax:=(bF g u).trans K;have ay:=(bF g u).trans L;have az:=(bF g u).trans M;have aA:=(bF g u).trans N;have aB:=(bF g u).trans O;clear K L M N O;go_wp2_with fail;refine mo_ (Km _ _ d c _ _ (m _ s) (Q _ s) (gP l.out).1 (λj t=>(P j t).1)) λaE C=>?_;go_wp2_with fail;go_ret;exact⟨eJ i.out.symm,s.trans (C.mono s.size)⟩
  have i:=hid_ (G W);clear G H K L M N O;go_wp2_with fail;go_ret;exact⟨eJ i.out.symm,s⟩
 rw[CI h1];have T:(cf d ⟨c.head.pred,c.head.args⟩ != 0)=true:=Q6;clear h1 o;go_enter func118,ntmps118;go_wp2_with fail;refine mo_ (rH _ _ _ d _ _ (m _ RK) (y _ RK)) λx hb1=>?_;go_wp2_with fail;go_ret;exact⟨rfl,cU (bH _ _) hb1⟩
