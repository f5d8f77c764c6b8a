import Derived.Test.YtlfccloaoopadagGreatDoorG36
import Derived.Test.YtlfccloaoopadagGreatDoorG38
open Go.Proofs.Tryz
set_option maxRecDepth 100000
set_option maxHeartbeats 0
open Go.World (cell?)
open Nat (le_refl le_trans zero_le)
open List (append_nil getElem_mem length_append length_map map_map mem_flatMap mem_map take_length)
namespace Go.Proofs.YtlfccloaoopadagGreatDoor
open Go.ChangeShapes Go.WideShapes Go.ChangeAt Go.RowKit
variable{p:Prop}
def fT(x:World)(B:Nat)(pv rv fv gv:Value):Prop:=x.heap[B]? =some (.cells #[pv,rv,fv,gv] 179 (0,0))
theorem Wt(h:p:=by simp[cell?,h]):p:=h
theorem kL{b:World}{a f g c d}(h:fT b a f g c d):b.cell? a=some f/\b.cell? ⟨a,1,none⟩=some g/\b.cell? ⟨a,2,none⟩=some c/\b.cell? ⟨a,3,none⟩=some d/\b.frozen? ⟨a,2,none⟩=false/\b.frozen? ⟨a,3,none⟩=false/\a<b.heap.size:=by
 unfold fT at h;exact⟨Wt,Wt,Wt,Wt,frozen_of_row b a 2 _ _ h,frozen_of_row b a 3 _ _ h,(Array.getElem?_eq_some_iff.1 h).1⟩
theorem Lp{c:World}{a f g h d}(i:fT c a f g h d)(b):fT (c.setCell ⟨a,2,none⟩ b) a f g b d:=heap_setCell_same c a 2 _ _ b i
theorem Lq{c:World}{a f g d h}(i:fT c a f g d h)(b):fT (c.setCell ⟨a,3,none⟩ b) a f g d b:=heap_setCell_same c a 3 _ _ b i
theorem om{a i:World}{b g h c d}(j:Below a a i)(f:fT a b g h c d):fT i b g h c d:=(j.block _ (kL f).2.2.2.2.2.2).trans f
theorem LI{g f b}(d:bW g f=0)(j:cw g b=true):f.any (λa=>decide (b=a))=decide (cd f (bL b)=some b.val):=by
 rw[Bool.eq_iff_iff,List.any_eq_true,decide_eq_true_iff];constructor
 .rintro⟨a,c,e⟩;rw[decide_eq_true_iff] at e;subst e;exact oR (cG d).sorted c
 intro h;obtain⟨a,c,i,n⟩:=mD h;obtain⟨k,l,m⟩:=pF ((cG d).fine a c) (iC j) i;refine⟨a,c,decide_eq_true ?_⟩;obtain⟨o,p,q,r⟩:=b;obtain⟨s,t,u,v⟩:=a;simp_all
theorem KU{c f b}(g:bW c f=0)(h:∀a∈b,cw c a=true):(b.filter λa=> !f.any (λj=>decide (a=j)))=cO f b:=by
 unfold cO;refine List.filter_congr λa i=>?_;rw[LI g (h a i)];by_cases d:cd f (bL a)=some a.val<;>simp[d]
theorem abu(h:p:=by
 go_wp2_with fail
 go_ret
 exact⟨rfl,b1.trans (hk.mono b1.size)⟩):p:=h
theorem LH(c:World)(l n:Nat)(H I j C f d)(s:c.cell? l=some (.pointer (some ⟨n,0,none⟩)))(D:l<c.heap.size)(F:fT c n H I j C)(t:bO c j f):Calls prog 171 #[iB d,.pointer (some ⟨l,0,none⟩)] c λe m=>e=.returned (.bool (f.any (λi=>decide (d=i))))/\Below c c m:=by
 have v:Hid (∀h,Below c c h->Calls prog 172 #[j,.agg #[d.pred,d.a,d.b,d.val]] h λe m=>e=.returned (.bool (f.any (λi=>decide (d=i))))/\Below h h m):=λh G=>KI h j f d (bO.a G t);obtain⟨g,hW1⟩:=ex_ (c.alloc (.cells #[d.pred,d.a,d.b,d.val] 93));have b1:Below c c g:=VO;have k:c.heap.size<g.heap.size:=UA;obtain⟨o,p,q,r⟩:g.cell? c=some (.int .i64 d.pred)/\g.cell? ⟨c,1,none⟩=some (.int .i64 d.a)/\g.cell? ⟨c,2,none⟩=some (.int .i64 d.b)/\g.cell? ⟨c,3,none⟩=some (.int .i64 d.val):=UB;obtain⟨_,_,u,_,_,_,E⟩:=kL F;have w:=lo_ k o;have x:=lo_ k p;have y:=lo_ k q;have z:=lo_ k r;have A:=λ(h:Low g.heap.size g)=>(bF (b1.trans (h.low.mono b1.size)) D).trans s;have B:=λ(h:Low g.heap.size g)=>(bF (b1.trans (h.low.mono b1.size)) E).trans u;obtain⟨J,K,rfl,_⟩:=t;clear s u o p q r;unfold iB;generalize f.any (λi=>decide (d=i))=bb at*;go_enter func171,ntmps171;go_wp2_with fail;refine dz g.heap.size SI SI ?_;repeat(go_big_quiet_step ((go_at_call 172;exact dy (v _ (b1.trans ((Low.low _).mono b1.size))))))
 refine wpQuiet_nil ?_;rintro _ ⟨⟨L,hk⟩,rfl⟩;clear w x y z A B;exact abu
theorem La(g:World)(s w G:Nat)(F aq aj B:Value)(t:List Prd)(o:List Fct)(d:Stp)(h:aI)(U:bR g F t)(R:bO g B o)(S:bW t o=0)(V:cT d.a=true)(C:cf t h.l.atom=0)(W:h.n=h.l.atom.args.length)(D:cr g (.slice h.a h.l.atom.args h.c) h.l.atom.args)(h1:g.cell? ⟨s,1,none⟩=some (.int .i64 d.x))(h2:g.cell? ⟨s,2,none⟩=some (.int .i64 d.y))(N:g.cell? ⟨s,3,none⟩=some (.int .i64 d.z))(Q:g.cell? w=some (.pointer (some ⟨G,0,none⟩)))(T:fT g G F aq aj B)(E:s<g.heap.size)(ao:w<g.heap.size):Calls prog 175 #[h.b,.pointer (some ⟨s,0,none⟩),.pointer (some ⟨w,0,none⟩)] g λe w'=>e=.returned (.bool (cd o (bL (cv d.a h.l.atom))).isSome)/\Below g g w':=by
 obtain⟨f,ar,aC,au⟩:=h;dsimp only at W C D;subst W;rw[aI.b];dsimp only;obtain⟨e1,L⟩:=wi (v:=d.a) S C V
 have aa:Hid (∀i,Below g g i->Calls prog 176 #[.agg #[f.atom.pred,.slice ar f.atom.args au],.agg #[d.x,d.y,d.z]] i λe w'=>(∃M,e=.returned (.tuple #[.agg #[.int .i64 (cv d.a f.atom).pred,.int .i64 (cv d.a f.atom).a,.int .i64 (cv d.a f.atom).b,.int .i64 (cv d.a f.atom).val],M]))/\Below i i w'):=λi p=>by
  have:=xD i _ f.atom.pred f.atom.args d.a (cr.a p D);exact aav
 have Z:Hid (∀i,Below g g i->Calls prog 177 #[F,B,.agg #[.int .i64 (cv d.a f.atom).pred,.int .i64 (cv d.a f.atom).a,.int .i64 (cv d.a f.atom).b,.int .i64 (cv d.a f.atom).val]] i λe w'=>e=.returned (.tuple #[.int .i64 (eK o (bL (cv d.a f.atom))),.bool (cd o (bL (cv d.a f.atom))).isSome,.int .i64 0])/\Below i i w'):=λi p=>by
  have:=zw i _ _ t o (cv d.a f.atom).pred (cv d.a f.atom).a (cv d.a f.atom).b (cv d.a f.atom).val (bR.a p U) (bO.a p R);rw[show(⟨(cv d.a f.atom).pred,(cv d.a f.atom).a,(cv d.a f.atom).b,(cv d.a f.atom).val⟩:Fct)=cv d.a f.atom from rfl,L] at this;exact this
 obtain⟨X,_,_,Y,_,_,O⟩:=kL T;have A:=hid_ λi (p:Below g g i)=>an_ ((bF p ao).trans Q) (an_ ((bF p O).trans X) ((bF p O).trans Y));have ak:=λq=>(bF (o:=1) (bH g q) E).trans h1;have al:=λq=>(bF (o:=2) (bH g q) E).trans h2;have am:=λq=>(bF (o:=3) (bH g q) E).trans N;obtain⟨ay,az,rfl,_⟩:=U;obtain⟨aw,ax,rfl,_⟩:=R;clear D S C V e1 L Q T X Y h1 h2 N;generalize eK o (bL (cv d.a f.atom))=av at*;generalize(cd o (bL (cv d.a f.atom))).isSome=aA at*;generalize cv d.a f.atom=m at*;go_enter func175,ntmps175;go_wp2_with fail;refine(aa _ (bH _ _)).mono ?_;rintro e r ⟨⟨M,rfl⟩,P⟩;have ap:=cU (bH _ _) P;clear P ak al am;obtain⟨j,hW2⟩:=ex_ (r.alloc (.cells #[m.pred,m.a,m.b,m.val] 93));have ai:Below r r j:=VP;have u:r.heap.size<j.heap.size:=by rw[<-hW2];simp
 have k:=bt_ ap ai;obtain⟨H,I,J,K⟩:j.cell? r=some (.int .i64 m.pred)/\j.cell? ⟨r,1,none⟩=some (.int .i64 m.a)/\j.cell? ⟨r,2,none⟩=some (.int .i64 m.b)/\j.cell? ⟨r,3,none⟩=some (.int .i64 m.val):=Vz;have ab:=lo_ u H;have ac:=lo_ u I;have ad:=lo_ u J;have ae:=lo_ u K;have af:=λ(h:Low j.heap.size j)=>(A _ (k.trans (h.low.mono k.size))).1;have ag:=λ(h:Low j.heap.size j)=>(A _ (k.trans (h.low.mono k.size))).2.1;have ah:=λ(h:Low j.heap.size j)=>(A _ (k.trans (h.low.mono k.size))).2.2;clear H I J K;go_wp2_with fail;refine dz j.heap.size SI SI ?_;repeat(go_big_quiet_step ((go_at_call 177;exact dy (Z _ (k.trans ((Low.low _).mono k.size))))))
 refine wpQuiet_nil ?_;rintro _ ⟨⟨aB,an⟩,rfl⟩;clear ab ac ad ae af ag ah;go_wp2_with fail;go_ret;exact⟨rfl,k.trans (an.mono k.size)⟩
theorem Le(a:World)(d f e:Nat)(y b)(s:Int)(c r)(v t:Nat)(h)(j i:Nat)(he:c.head.pred=(e:Int))(hel:e<b.length)(k:a.cell? d=some y)(l:a.cell? f=some (.int .i64 s))(m:dD a y b)(p:d<a.heap.size)(q:f<a.heap.size):Calls prog 122 #[.agg #[c.head.pred,.slice r v t,c.src,c.n,.slice h j i],.pointer (some ⟨d,0,none⟩),.pointer (some ⟨f,0,none⟩)] a λe A=>e=.returned (.bool (ce b s c))/\Below a a A:=by
 obtain⟨z,x,G,rfl,u,l0⟩:=cN m hel;have w:a.cell? ⟨z,x+e,none⟩=some (.int .i64 (b[e]:Int)):=Vl
 have HE:Hid (ce b s c=((b[e]:Int)==s)):=by
  exact abv
 rw[he];obtain⟨g,hW1⟩:=ex_ (a.alloc (.cells #[e,.slice r v t,c.src,c.n,.slice h j i] 58));have b1:Below a a g:=VO;have E:g.cell? a=some (.int .i64 (e:Int)):=UB;have B:=(bF (o:=0) b1 p).trans k;have C:=(bF (o:=0) b1 q).trans l;have D:=(bF (o:=x+e) b1 u).trans w;have F:(e:Int)<(b.length:Int):=Q0;generalize b[e]=H at*;clear k l m l0 w p q u;go_enter func122,ntmps122;exact Zs
theorem Lf(a:World)(f b c d:Int):Calls prog 123 #[.agg #[f,b,c,d]] a λe g=>e=.returned (.bool true)/\Below a a g:=by
 go_enter func123,ntmps123;exact YO
theorem Lc(b:World)(k n:Nat)(S V J v:Value)(t:List Prd)(i:List Rul)(j:List Fct)(d:Stp)(N:bR b S t)(O:ck b V i)(L:bO b v j)(M:bW t j=0)(P:cT d.a=true)(B:fT b k S V J v)(hk:d.rule=(n:Int))(af:n<i.length)(K:∀l∈i[n].body,cf t l.atom=0):Calls prog 125 #[.pointer (some ⟨k,0,none⟩),.agg #[d.rule,d.x,d.y,d.z]] b λe u=>e=.returned (.bool (fZ j i[n] d.a))/\Below b b u:=by
 obtain⟨T,U,aj,rfl,ah,ae⟩:=cN O af;obtain⟨_,_,_,_,q,W,X⟩:=ae;obtain⟨E,Q,A,C⟩:=Am X;obtain⟨c,hW1⟩:=ex_ ((b.alloc (.cells #[.pointer (some ⟨k,0,none⟩)] 177)).alloc (.cells #[n,d.x,d.y,d.z] 140));have b1:Below b b c:=Wb;have au:c.heap.size=b.heap.size+1+1:=UA;have D:c.cell? b=some (.pointer (some ⟨k,0,none⟩)):=UB;obtain⟨F,G,H,I⟩:c.cell? ⟨b.heap.size+1,0,none⟩=some (.int .i64 (n:Int))/\c.cell? ⟨b.heap.size+1,1,none⟩=some (.int .i64 d.x)/\c.cell? ⟨b.heap.size+1,2,none⟩=some (.int .i64 d.y)/\c.cell? ⟨b.heap.size+1,3,none⟩=some (.int .i64 d.z):=UB
 have Y:Hid (∀g,Below c c g->Calls prog 174 #[q,.func (.func 175) #[] #[.pointer (some ⟨b.heap.size+1,0,none⟩),.pointer (some ⟨b,0,none⟩)]] g λe u=>e=.returned (.bool (fZ j i[n] d.a))/\Below g g u):=λg o=>by
  have s:=bt_ b1 o
  have e:E.any (λf=>(cd j (bL (cv d.a f.l.atom))).isSome)=fZ j i[n] d.a:=by
   unfold fZ;rw[<-A,List.any_map];rfl
  rw[<-e]
  have ag:jm 3 qU g q E:=by
   refine jm.a (λb u al ar f hb hlt h=>?_) s Q;exact aa5
  refine zG g q E _ _ (enters_of func175 SI rfl) _ ag (λak f ai w=>?_);have m:=bt_ o ai;have r:=bt_ b1 m;exact La ak _ _ k _ _ J v t j d f (bR.a r N) (bO.a r L) M P (K _ (A▸List.mem_map_of_mem w)) (C f w).1 (cr.a r (C f w).2) ((bF m Q0).trans G) ((bF m Q0).trans H) ((bF m Q0).trans I) ((bF m Q0).trans D) (om r B) (by have:=m.size;omega) (by have:=m.size;omega)
 obtain⟨_,R,_,_,_,_,ad⟩:=kL B
 have p:Hid (∀g,Below c c g->g.cell? b=some (.pointer (some ⟨k,0,none⟩))/\g.cell? ⟨k,1,none⟩=some (.slice (some ⟨T,U,none⟩) i aj)/\g.cell? ⟨b.heap.size+1,0,none⟩=some (.int .i64 (n:Int))/\g.cell? ⟨T,U+n*5+4,none⟩=some q):=λg o=>by
  have s:=bt_ b1 o;exact⟨(bF o Q0).trans D,(bF s ad).trans R,(bF o Q0).trans F,(bF s ah).trans W⟩
 rw[hk];generalize fZ j i[n] d.a=an at*;obtain⟨am,ao,rfl,_⟩:=X;have Z:=λ(f:Low c.heap.size c)=>(p _ f.low).1;have aa:=λ(f:Low c.heap.size c)=>(p _ f.low).2.1;have ab:=λ(f:Low c.heap.size c)=>(p _ f.low).2.2.1;have ac:=λ(f:Low c.heap.size c)=>(p _ f.low).2.2.2;have ap:(n:Int)<(i.length:Int):=Q0;have aq:(0:Int)<=(n:Int):=Q0;clear Q C A W N O L B R D F G H I M K P;go_enter func125,ntmps125;go_wp2_with fail;refine dz c.heap.size SI SI ?_;repeat(go_big_quiet_step ((go_at_call 174;exact dy (Y _ (Low.low _)))))
 refine wpQuiet_nil ?_;rintro _ ⟨⟨av,hk⟩,rfl⟩;clear Z aa ab ac;exact abu
open Go.Shelf
attribute [local go_sem] Oper.semAt_some
theorem KG(f c n):bI f c n=(bI f c 0).map λs=>⟨n,s.x,s.y,s.z⟩:=by
 unfold bI df dp dF;rw[List.map_flatMap];congr 1;funext a;rw[List.map_flatMap];congr 1;funext b;rw[map_map];rfl
def gR(ps:List Prd)(first:Bool)(fr f:List Fct)(r:Rul)(n:Int)(q:Nat):List Fct:=(((bI f r n).take q).filter λst=>first||fZ fr r st.a).map λst=>co ps f r st.a
theorem uE(c first b f a n):jv c first b f a=gR c first b f a n (bI f a n).length:=by
 unfold jv qg gR;rw[take_length,KG f a n,List.filter_map,map_map];rfl
theorem CW(b first a f c n):gR b first a f c n 0=[]:=by unfold gR;rfl
theorem CV{g first d f b n c}(h:c<(bI f b n).length):gR g first d f b n (c+1)=gR g first d f b n c++if first||fZ d b (bI f b n)[c].a then[co g f b (bI f b n)[c].a] else[]:=by
 unfold gR;rw[List.take_succ_eq_append_getElem h,List.filter_append,List.map_append];congr 1;cases e:(first||fZ d b (bI f b n)[c].a)<;>simp[e]
theorem CU(c first b f a n d):(gR c first b f a n d).length<=(jv c first b f a).length:=by
 rw[uE c first b f a n];unfold gR;rw[length_map,length_map,take_length];exact((List.take_sublist d (bI f a n)).filter _).length_le
theorem xJ{d:List Prd}{b:Rul->Bool}{first:Bool}{c f:List Fct}{a:List Rul}{n:Nat}(h:n<a.length):cH d b first c f (a.take (n+1))=cH d b first c f (a.take n)++if b a[n] then jv d first c f a[n] else[]:=by
 unfold cH;exact aa_
theorem uF(c)(a:Rul->Bool)(first b f d k):(cH c a first b f (d.take k)).length<=(cH c a first b f d).length:=by
 have:cH c a first b f d=cH c a first b f (d.take k)++cH c a first b f (d.drop k):=by
  unfold cH;exact aaW
 rw[this,length_append];omega
theorem LF{d}{b:Rul->Bool}{first c f a n}(i:n<a.length)(h:b a[n]=true):∀g∈jv d first c f a[n],g∈cH d b first c f a:=λg j=>
 mem_flatMap.2 ⟨a[n],getElem_mem i,by rw[if_pos h];exact j⟩
theorem LC(a:World)(b d g f c h):Calls prog 170 #[.pointer (some ⟨b,0,none⟩),.func (.func d) #[] g,.func (.func f) c h] a λe i=>e=.returned (.func (.func 213) #[] #[.pointer (some ⟨a,0,none⟩),.pointer (some ⟨a.heap.size+1,0,none⟩),.pointer (some ⟨a.heap.size+1+1,0,none⟩)])/\ i=((a.alloc (.cells #[.pointer (some ⟨b,0,none⟩)] 177)).alloc (.cells #[.func (.func d) #[] g] 173)).alloc (.cells #[.func (.func f) c h] 180):=by
 go_enter func170,ntmps170;exact aer
theorem Wv(h:p:=by show _=_;rw[rE,hpre'.out,HT2.out,List.append_assoc]):p:=h
theorem aeq(h:p:=by
 have hst8:=hid_ (HSX _ _ hk8 hst7.out)
 clear n0 n1 n2 n3 hy
 gi_wp2_with fail
 go_roundw
 case rel=>exact⟨q+1,_,Q0,Rv,Wv,hJ8,k7.a hk8,hst8.out⟩
 exact S6):p:=h
theorem LA(n)(F:1<=n)(I aB aA p u)(s:Nat->Prop)(T U Q ca aq a5 g2 aQ a6 d rs f)(r:Rul->Bool)(first j)(m:World)(br:¬s I)(bs:¬s aB)(bq:¬s aA)(bp:¬s p)(hX:∀k,s k->u<=k/\k<m.heap.size)(bC:u<=m.heap.size)(bv:m.cell? I=some (.pointer (some ⟨p,0,none⟩)))(bw:fT m p T U Q ca)(bx:m.cell? aB=some (.func (.func aq) #[] a5))(bz:m.cell? aA=some (.func (.func g2) aQ a6))(V:World)(hw₀:V.heap.size=u)(hb₀:Below u V m)(bD:bR V T d)(a0:ck V U rs)(bA:bO V Q f)(a1:dU d)(hpe:bP d rs=0)(hfe:bW d f=0)(cM:∀ai m,(callFunc aq ai).run prog m=.ok (.enter aq ai) m)(cO:∀ai m,(callFunc g2 ai).run prog m=.ok (.enter g2 ai) m)(bG:∀(c:World) (n:Nat) (F:n<rs.length) (av:Option Addr) (aw:Nat) (aj:Option Addr) (ak:Nat),ag u s m c->Calls prog aq (#[.agg #[.int .i64 rs[n].head.pred,.slice av rs[n].head.args.length aw,.int .i64 rs[n].src,.int .i64 rs[n].n,.slice aj rs[n].body.length ak]]++a5) c λe g=>e=.returned (.bool (r rs[n]))/\Below c c g)(bJ:∀(c:World) (n:Nat) (F:n<rs.length) (B:Stp),B∈bI f rs[n] n->ag u s m c->Calls prog g2 (aQ++#[.agg #[B.rule,B.x,B.y,B.z]]++a6) c λe g=>e=.returned (.bool (first||fZ j rs[n] B.a))/\Below c c g):SeqStopsK Fence.wide n prog 213 #[.pointer (some ⟨I,0,none⟩),.pointer (some ⟨aB,0,none⟩),.pointer (some ⟨aA,0,none⟩)] (oZ (T:=cH d r first j f rs)) (ag u s) (λcG=>eD cG=cH d r first j f rs) (λ_=>True) (cH d r first j f rs).length m:=λl aO cI bj bo cc _ bt cb=>by
 have cg:=eU hpe
 have bg:Hid (ag u s m bj):=ag.b bo bC
 have aN:Hid (∀c,ag u s m c->Below V V c):=λc hx=>VT
 have M:=hid_ λc (hx:ag u s m c)=>an_ (bR.a (aN c hx) bD) (an_ (ck.a (aN c hx) a0) (bO.a (aN c hx) bA))
 have ah:Hid (∀c,ag u s m c->c.cell? I=some (.pointer (some ⟨p,0,none⟩))/\c.cell? aB=some (.func (.func aq) #[] a5)/\c.cell? aA=some (.func (.func g2) aQ a6)/\c.cell? p=some T/\c.cell? ⟨p,1,none⟩=some U/\c.cell? ⟨p,2,none⟩=some Q):=λc hx=>by
  obtain⟨cy,cz,cA,_⟩:=kL (hx.but.same p _ bp bw rfl)
  exact⟨hx.but.a br bv,hx.but.a bs bx,hx.but.a bq bz,cy,cz,cA⟩
 have bb:Hid (∀c n,(F:n<rs.length)->ag u s m c->Calls prog 168 #[.agg #[T,U],Q,n] c λe g=>(∃aJ,e=.returned (.tuple #[aJ,.int .i64 0])/\cL g aJ (bI f rs[n] n)/\∀b,aJ.ownBlock=some b->c.heap.size<=b)/\Below c c g):=λc n F hx=>by
  have h:=wg c T U Q d rs f n (M c hx).1 (M c hx).2.1 (M c hx).2.2 a1
  have e:ev d rs f n=0:=VU
  have Y:mb d rs f n=bI f rs[n] n:=by rw[mb,if_neg Sj,Int.toNat_natCast,List.getElem?_eq_getElem F]
  rw[e,Y] at h
  exact h
 have be:Hid (∀c n,(F:n<rs.length)->∀k,(hk:k<(bI f rs[n] n).length)->ag u s m c->Calls prog 198 #[.agg #[T,U],Q,n,.agg #[.int .i64 (bI f rs[n] n)[k].x,.int .i64 (bI f rs[n] n)[k].y,.int .i64 (bI f rs[n] n)[k].z]] c λe g=>e=.returned (.tuple #[.bool true,.agg #[.int .i64 (co d f rs[n] (bI f rs[n] n)[k].a).pred,.int .i64 (co d f rs[n] (bI f rs[n] n)[k].a).a,.int .i64 (co d f rs[n] (bI f rs[n] n)[k].a).b,.int .i64 (co d f rs[n] (bI f rs[n] n)[k].a).val],.int .i64 0])/\Below c c g):=λc n F k hk hx=>by
  have h:=wh c T U Q d rs f n (bI f rs[n] n)[k].a (M c hx).1 (M c hx).2.1 (M c hx).2.2 a1
  obtain⟨b8,g2,b9⟩:=xy (ps:=d) hk
  have e:ev d rs f n=0:=VU
  have P:f9 d rs f n (bI f rs[n] n)[k].a=0:=VW
  have aR:iF d rs f n (bI f rs[n] n)[k].a=true:=by rw[iF,if_neg (by rw[P];simp),Int.toNat_natCast,List.getElem?_eq_getElem F];exact b8
  have Y:gL d rs f n (bI f rs[n] n)[k].a=co d f rs[n] (bI f rs[n] n)[k].a:=by rw[gL,if_neg (by rw[P];simp),Int.toNat_natCast,List.getElem?_eq_getElem F];exact b9
  rw[P,aR,Y] at h
  exact h
 have bh:=hid_ bG
 have bi:=hid_ bJ
 have HX2:Hid (∀k,m.heap.size<=k->¬s k):=λk hk h=>VX
 have W:=hid_ λpre L af (aa:aO pre L)(ar:Below L L af)=>cc _ _ _ none aa (uk ar) (λ_ e=>T8)
 have A:=hid_ λc (hx:ag u s m c)=>le_trans bC hx.but.size
 obtain⟨ay,az,rfl,_⟩:=bD
 obtain⟨cj,ad,rfl,cU,ch⟩:=id a0
 obtain⟨ao,ap,rfl,_⟩:=bA
 clear ch hpe hfe cg bG bJ hX hb₀ bv bw bx bz bo a1 br bs bq bp a0
 refine callsIn_of_wp func213 rfl trivial ?_ rfl
 simp only[ntmps213,List.size_toArray,List.length_cons,List.length_nil,Nat.reduceAdd,Nat.reduceSub,Array.replicate_succ,Array.replicate_zero,List.push_toArray,List.append_toArray,List.nil_append,List.cons_append]
 obtain⟨b0,b1,b2,b3,b4,b5⟩:=ah bj bg.out
 gi_wp2_with fail
 clear b0 b1 b2 b3 b4 b5
 gi_loopw [20] (λS wr=>∃(k:Nat) (pre:List (kI (cH d r first j f rs))),k<=rs.length/\S=.int .i64 k/\Hid (eD pre=cH d r first j f (rs.take k))/\aO pre wr/\ag u s m wr) (λS _=>rs.length-(intOf S).toNat)
 case atStart=>exact⟨0,[],zero_le _,rfl,rfl,cb,bg.out⟩
 obtain⟨k,pre,hk,rfl,hpre,hJk,aZ⟩:=hrel
 by_cases R:k<rs.length
 .obtain⟨ac,ae,cl,hv,cT,cf⟩:=cN (M wr aZ).2.1 R
  obtain⟨rfl,rfl⟩:cj=some ⟨ac,ae,none⟩/\ad=cl:=SC
  obtain⟨cq,⟨cW,cr,cs⟩,ct,cu,cK,cv,cw⟩:=cf
  obtain⟨aj,ak,rfl,_⟩:=cw
  obtain⟨av,aw,rfl,_⟩:=cs
  have cR:(k:Int)<(rs.length:Int):=Q0
  clear hv
  obtain⟨J,hW2⟩:=ex_ (wr.alloc (.cells #[.int .i64 rs[k].head.pred,.slice av rs[k].head.args.length aw,.int .i64 rs[k].src,.int .i64 rs[k].n,.slice aj rs[k].body.length ak] 58))
  have bk:Below wr wr J:=VP
  have aH:=aZ.a (ag.b bk (A _ aZ))
  obtain⟨aE,al,am,an,b6⟩:J.cell? wr=some (.int .i64 rs[k].head.pred)/\J.cell? ⟨wr,1,none⟩=some (.slice av rs[k].head.args.length aw)/\J.cell? ⟨wr,2,none⟩=some (.int .i64 rs[k].src)/\J.cell? ⟨wr,3,none⟩=some (.int .i64 rs[k].n)/\J.cell? ⟨wr,4,none⟩=some (.slice aj rs[k].body.length ak):=Vz
  obtain⟨_,aR,_⟩:=ah J aH
  have bn:=W _ _ _ hJk bk
  gi_wp2_with fail
  refine⟨trivial,CallsIn.mono (callsIn_wide.2 (bh J k R av aw aj ak aH)) ?_⟩
  rintro Z N ⟨rfl,bu⟩
  have k3:=aH.a (ag.b bu (A _ aH))
  have hJ3:=W _ _ _ bn bu
  clear hW2 aE al am an b6 aR cq cr ct cu cv bn hJk
  have HSU:Hid (cH d r first j f (rs.take (k+1))=cH d r first j f (rs.take k)++if r rs[k] then jv d first j f rs[k] else[]):=xJ R
  have HLE:=hid_ (uF d r first j f rs (k+1))
  cases hS:r rs[k]
  .have HSN:Hid (cH d r first j f (rs.take (k+1))=cH d r first j f (rs.take k)):=VY
   exact aes
  have HSN:Hid (cH d r first j f (rs.take (k+1))=cH d r first j f (rs.take k)++jv d first j f rs[k]):=by show _=_;rw[HSU.out,hS,if_pos rfl]
  have bT:Hid (∀c∈jv d first j f rs[k],c∈cH d r first j f rs):=LF R hS
  have a9:=hid_ (λc hx=>bb c k R hx)
  have bS:=hid_ (λc q aG hx=>be c k R q aG hx)
  have bQ:=hid_ λc q (aG:q<(bI f rs[k] k).length)(hx:ag u s m c)=>bi c k R _ (getElem_mem aG) hx
  clear HSU bb be bh bi hS
  generalize rs[k]=i at*
  have X:Hid (∀g:World,Below N N g->g.cell? I=some (.pointer (some ⟨p,0,none⟩))/\g.cell? p=some (.slice ay d az)/\g.cell? ⟨p,1,none⟩=some (.slice (some ⟨ac,ae,none⟩) rs ad)/\g.cell? ⟨p,2,none⟩=some (.slice ao f ap)):=λg hx=>by
   obtain⟨P,_,_,aS,aT,aU⟩:=ah g (k3.a (ag.b hx (A _ k3)))
   exact⟨P,aS,aT,aU⟩
  have ba:Hid (∀c,Below N N c->Calls prog 168 #[.agg #[.slice ay d az,.slice (some ⟨ac,ae,none⟩) rs ad],.slice ao f ap,k] c λe g=>(∃C D,e=.returned (.tuple #[.slice C (bI f i k).length D,.int .i64 0])/\cL g (.slice C (bI f i k).length D) (bI f i k)/\∀b,(Value.slice C (bI f i k).length D).ownBlock=some b->N.heap.size<=b)/\Below c c g):=λc hx=>by
   refine(a9 c (k3.a (ag.b hx (A _ k3)))).mono ?_
   rintro e g ⟨⟨aJ,rfl,aa,ar⟩,aF⟩
   obtain⟨C,D,rfl,_⟩:=id aa
   exact⟨⟨C,D,rfl,aa,λb hb=>le_trans hx.size (ar b hb)⟩,aF⟩
  gi_wp2_with fail
  refine wpIn_wide.2 ?_
  go_region_held3 (λg=>g.cell? I=some (.pointer (some ⟨p,0,none⟩))/\g.cell? p=some (.slice ay d az)/\g.cell? ⟨p,1,none⟩=some (.slice (some ⟨ac,ae,none⟩) rs ad)/\g.cell? ⟨p,2,none⟩=some (.slice ao f ap)) (first|(refine X _ ?_;(first|with_reducible exact Below.refl _ _|with_reducible exact Below.drew (Below.refl _ _)|with_reducible exact aY))) (first|(go_at_call 168;refine(ba _ (Below.drew (Below.refl _ _))).mono ?_;rintro Z bV ⟨⟨C,D,rfl,a2,hnew⟩,ce⟩;have aY:Below N N bV:=((Below.refl _ _).drew).trans ce))
  have ci:=k3.a (ag.b aY (A _ k3))
  have cd:=W _ _ _ hJ3 aY
  clear hJ3 a9 ba X
  have bU:=ls_ a2
  have HSX:Hid (∀L af,ag u s L af->cL L (.slice C (bI f i k).length D) (bI f i k)->cL af (.slice C (bI f i k).length D) (bI f i k)):=λL af hB h=>by
   exact adp
  have cQ:(bI f i k).length<=140737488355328:=by
   obtain⟨_,_,_,h,_⟩:=a2
   exact h
  clear a2 hnew
  gi_wp2_with fail
  gi_loopw [44] (λS a8=>∃(q:Nat) (pre':List (kI (cH d r first j f rs))),q<=(bI f i k).length/\S=.int .i64 q/\Hid (eD pre'=cH d r first j f (rs.take k)++gR d first j f i k q)/\aO pre' a8/\ag u s m a8/\cL a8 (.slice C (bI f i k).length D) (bI f i k)) (λS _=>(bI f i k).length-(intOf S).toNat)
  case atStart=>exact⟨0,pre,zero_le _,rfl,by show _=_;rw[CW,append_nil];exact hpre.out,cd,ci,bU _ (Below.refl _ _)⟩
  obtain⟨q,pre',aG,rfl,hpre',hJq,hkq,a3⟩:=hrel
  by_cases ax:q<(bI f i k).length
  .obtain⟨cm,cp,cn,hsv,cV,bK,bL,bM,bN⟩:=nj a3 ax
   obtain⟨rfl,rfl⟩:C=some ⟨cm,cp,none⟩/\D=cn:=VZ
   have cS:(q:Int)<((bI f i k).length:Int):=Q0
   have bd:=hid_ (λc hx=>bS c q ax hx)
   have bc:=hid_ (λc hx=>bQ c q ax hx)
   have aD:Hid (gR d first j f i k (q+1)=gR d first j f i k q++if first||fZ j i (bI f i k)[q].a then[co d f i (bI f i k)[q].a] else[]):=CV ax
   have aL:=hid_ (CU d first j f i k (q+1))
   have aK:Hid ((first||fZ j i (bI f i k)[q].a)=true->co d f i (bI f i k)[q].a∈cH d r first j f rs):=λh=>bT _ (by
    unfold jv qg
    rw[show(bI f i 0).filter (λB=>first||fZ j i B.a)=(bI f i 0).filter (λB=>first||fZ j i B.a) from rfl]
    have e:=uE d first j f i k
    unfold jv qg at e
    rw[e]
    unfold gR
    rw[take_length]
    exact mem_map.2 ⟨_,List.mem_filter.2 ⟨getElem_mem ax,h⟩,rfl⟩)
   have bf:=hid_ a3
   clear hsv a3
   generalize(bI f i k)[q]=v at*
   generalize co d f i v.a=t at*
   generalize(first||fZ j i v.a)=cB at*
   obtain⟨K,hW5⟩:=ex_ (wr.alloc (.cells #[v.rule,v.x,v.y,v.z] 140))
   have bl:Below wr wr K:=V0
   have a7:wr.heap.size<K.heap.size:=by rw[<-hW5];simp
   have aI:=hkq.a (ag.b bl (A _ hkq))
   obtain⟨aE,al,am,an⟩:K.cell? wr=some (.int .i64 v.rule)/\K.cell? ⟨wr,1,none⟩=some (.int .i64 v.x)/\K.cell? ⟨wr,2,none⟩=some (.int .i64 v.y)/\K.cell? ⟨wr,3,none⟩=some (.int .i64 v.z):=V1
   obtain⟨_,_,Y,_⟩:=ah K aI
   gi_wp2_with fail
   refine⟨trivial,CallsIn.mono (callsIn_wide.2 (bc K aI)) ?_⟩
   rintro Z o ⟨rfl,aX⟩
   have G:=aI.a (ag.b aX (A _ aI))
   have bm:=bt_ bl aX
   have au:=W _ _ _ hJq bm
   have aM:=hid_ (cL.a bm bf.out)
   cases cB
   .have HT2:Hid (gR d first j f i k (q+1)=gR d first j f i k q):=by show _=_;rw[aD.out,if_neg Q1,append_nil]
    clear aD aL aK hW5 aE al am an Y bK bL bM bN
    gi_wp2_with fail
    go_roundw
    case rel=>exact⟨q+1,pre',Q0,Rv,by show _=_;rw[HT2.out];exact hpre'.out,au,G,aM.out⟩
    exact S6
   have HT2:Hid (gR d first j f i k (q+1)=gR d first j f i k q++[t]):=by show _=_;rw[aD.out,if_pos rfl]
   have bB:=aK rfl
   have bE:pre'.length<(cH d r first j f rs).length:=by
    have aa:=HLE.out
    have ar:=congrArg List.length hpre'.out
    have aF:=aL.out
    rw[HSN.out,length_append] at aa
    rw[HT2.out,length_append] at aF
    rw[xx,length_append] at ar
    simp at aF
    omega
   have X:Hid (∀g:World,Below o o g->g.cell? I=some (.pointer (some ⟨p,0,none⟩))/\g.cell? p=some (.slice ay d az)/\g.cell? ⟨p,1,none⟩=some (.slice (some ⟨ac,ae,none⟩) rs ad)/\g.cell? ⟨p,2,none⟩=some (.slice ao f ap)/\g.cell? ⟨wr,1,none⟩=some (.int .i64 v.x)/\g.cell? ⟨wr,2,none⟩=some (.int .i64 v.y)/\g.cell? ⟨wr,3,none⟩=some (.int .i64 v.z)):=λg hx=>by
    obtain⟨P,_,_,aS,aT,aU⟩:=ah g (G.a (ag.b hx (A _ G)))
    have a4:=bt_ aX hx
    exact⟨P,aS,aT,aU,(bF a4 a7).trans al,(bF a4 a7).trans am,(bF a4 a7).trans an⟩
   have KA:Hid (Below o o (o.alloc (.cells #[.int .i64 0,.int .i64 0,.int .i64 0,.int .i64 0] 93))):=bH _ _
   have KS:=hid_ λc (hx:Below o o c) cC cD cE cF=>tB hx cC cD cE cF
   have aP:=hid_ λc (hx:Below (o.alloc (.cells #[.int .i64 0,.int .i64 0,.int .i64 0,.int .i64 0] 93)).drew.heap.size (o.alloc (.cells #[.int .i64 0,.int .i64 0,.int .i64 0,.int .i64 0] 93)).drew c)=>tK hx
   have aC:=hid_ (λc hx=>bd c (G.a (ag.b hx (A _ G))))
   clear aD aL aK hW5 aE al am an Y bK bL bM bN hJq bc bd bf
   gi_wp2_with fail
   refine wpIn_wide.2 ?_
   go_region_held3 (λg=>g.cell? I=some (.pointer (some ⟨p,0,none⟩))/\g.cell? p=some (.slice ay d az)/\g.cell? ⟨p,1,none⟩=some (.slice (some ⟨ac,ae,none⟩) rs ad)/\g.cell? ⟨p,2,none⟩=some (.slice ao f ap)/\g.cell? ⟨wr,1,none⟩=some (.int .i64 v.x)/\g.cell? ⟨wr,2,none⟩=some (.int .i64 v.y)/\g.cell? ⟨wr,3,none⟩=some (.int .i64 v.z)) (first|(refine X _ ?_;exact Yg)) (first|(go_at_call 198;refine(aC _ (KA.out.drew)).mono ?_;rintro Z H ⟨rfl,ab⟩;have hk:Below o o H:=KA.out.trans ((((Below.refl _ _).drew).trans ab).mono KA.out.size);obtain⟨z0,z1,z2,z3,zf⟩:=aP _ ab)|(go_at_call 198;refine(aC _ (Below.drew (Below.refl _ _))).mono ?_;rintro Z H ⟨rfl,ab⟩;have hk:Below o o H:=((Below.refl _ _).drew).trans ab))
   .obtain⟨w,E⟩:=ex_ (H.alloc (.cells #[t.pred,t.a,t.b,t.val] 93))
    have O:Below o o w:=by rw[<-E];exact Below.alloc hk (Below.size hk) _
    obtain⟨n0,n1,n2,n3⟩:w.cell? H=some (.int .i64 t.pred)/\w.cell? ⟨H,1,none⟩=some (.int .i64 t.a)/\w.cell? ⟨H,2,none⟩=some (.int .i64 t.b)/\w.cell? ⟨H,3,none⟩=some (.int .i64 t.val):=by rw[<-E];simp[go_sem]
    rw[E]
    clear E
    have k7:=G.a (ag.b O (A _ G))
    have aV:=W _ _ _ au O
    have hst7:=hid_ (cL.a O aM.out)
    clear ab hk X KA KS aP aC au
    obtain⟨b7,cx,bY,bZ,hy,aW⟩:=bt pre' ⟨t,bB⟩ w aV bE
    dsimp only[oZ] at hy
    gi_wp2_with fail
    refine aW.mono ?_
    rintro Z bX (⟨rfl,hJ8,hk8⟩|⟨rfl,hJx8⟩)
    .exact aeq
    exact aam
   obtain⟨w,E⟩:=ex_ ((((H.setCell o t.pred).setCell ⟨o,1,none⟩ t.a).setCell ⟨o,2,none⟩ t.b).setCell ⟨o,3,none⟩ t.val)
   have O:Below o o w:=by rw[<-E];exact KS _ hk _ _ _ _
   obtain⟨n0,n1,n2,n3⟩:w.cell? o=some (.int .i64 t.pred)/\w.cell? ⟨o,1,none⟩=some (.int .i64 t.a)/\w.cell? ⟨o,2,none⟩=some (.int .i64 t.b)/\w.cell? ⟨o,3,none⟩=some (.int .i64 t.val):=by
    rw[<-E]
    exact⟨by rw[cP Q0,cP Q0,cP Q0];exact fC z0,by rw[cP Q0,cP Q0];exact fC (by rw[cP Q0];exact z1),by rw[cP Q0];exact fC (by rw[cP Q0,cP Q0];exact z2),fC (by rw[cP Q0,cP Q0,cP Q0];exact z3)⟩
   rw[E]
   clear E z0 z1 z2 z3 zf
   have k7:=G.a (ag.b O (A _ G))
   have aV:=W _ _ _ au O
   have hst7:=hid_ (cL.a O aM.out)
   clear ab hk X KA KS aP aC au
   obtain⟨b7,cx,bY,bZ,hy,aW⟩:=bt pre' ⟨t,bB⟩ w aV bE
   dsimp only[oZ] at hy
   gi_wp2_with fail
   refine aW.mono ?_
   rintro Z bX (⟨rfl,hJ8,hk8⟩|⟨rfl,hJx8⟩)
   .exact aeq
   clear n0 n1 n2 n3 hy
   gi_wp2_with fail
   refine bodyPost_ret (results_none rfl _ _ _) rfl ?_
   exact⟨⟨_,rfl⟩,.inr ⟨_,trivial,hJx8⟩⟩
  obtain rfl:q=(bI f i k).length:=Q0
  have HRT:=hid_ ((uE d first j f i k).symm)
  exact aev
 exact aaU
def rL(n:Nat)(w:World)(v:Value)(xs:List Fct):Prop:=(v=.slice none 0 0/\xs=[])\/∃g cap,v=.slice (some ⟨g,0,none⟩) xs cap/\n<=g/\ay w g xs/\xs.length<=cap
theorem Lv{f:World}{n:Nat}{j:Value}{c:List Fct}(h:f.ownsRow n 93 4 j c (cB c))(w:c.length<=500):rL n f j c:=by
 rcases h.2 with⟨rfl,o⟩|⟨b,g,v,rfl,p,i,q,x,y,z⟩
 .exact .inl ⟨rfl,List.eq_nil_of_length_eq_zero o⟩
 refine .inr ⟨b,g,rfl,p,⟨(Array.getElem?_eq_some_iff.1 i).1,λs=>frozen_of_row f b s _ _ i,λr u d=>?_⟩,q⟩;obtain⟨k,m,hv,_,a⟩:=lz h Q0;obtain⟨rfl,rfl⟩:some (⟨b,0,none⟩:Addr)=k/\g=m:=SC;rcases a with a|⟨l,t,he,_,a⟩
 .rw[a] at d;simp at d
 obtain⟨rfl,rfl⟩:b=l/\0=t:=Ro;have:=a r u d;rwa[Nat.zero_add] at this
theorem KH(b:World)(i f)(k:bO b i f)(j:f.length<=500):Calls prog 155 #[i] b λe w'=>∃m,e=.returned m/\rL b w' m f/\Below b b w':=by
 have g:=hid_ (tk k);obtain⟨o,fc,rfl,r,c⟩:=k;cases o with
 |none=>
  have q:f=[]:=by
   rcases c with h|⟨w,y,h,_⟩
   .exact h
   cases h
  subst q
  have s:∀w',Sem.run prog (binOp .eql 65 (.slice none 0 fc) (.slice none 0 0)) w'=.ok (.bool true) w':=λw'=>by
   exact ZM
  clear j r g c;simp only[List.length_nil];go_enter func155,ntmps155;go_wp2_with fail;go_ret;exact⟨.slice none 0 0,rfl,.inl ⟨rfl,rfl⟩,Below.refl _ _⟩
 |some ad=>
  clear c
  have s:∀w',Sem.run prog (binOp .eql 65 (.slice (some ad) f fc) (.slice none 0 0)) w'=.ok (.bool false) w':=λw'=>by
   exact ZJ
  go_enter func155,ntmps155;have n:Hid ((b.alloc (.cells #[] 93)).ownsRow b.heap.size 93 4 (.slice (some ⟨b,0,none⟩) 0 0) ([]:List Fct).length (cB [])):=⟨rfl,.inr ⟨b,0,#[],rfl,le_refl _,heap_alloc_new b _,le_refl _,zero_le _,rfl,rfl⟩⟩;go_wp2_with(at_builtin;refine jo _ rfl _ _ rfl b.heap.size (.slice (some ⟨b,0,none⟩) 0 0) [] f n rfl _ rfl (g.out.a (bH _ _)) RD Q1 ?_;intro u v t l;have p:Below b b v:=(bH _ _).grown l Q1 (λx hk=>Uu);clear l);go_ret;exact⟨u,rfl,Lv t j,p⟩
theorem KL(a:World)(b g)(h:∀d a,(callFunc b d).run prog a=.ok (.enter b d) a):Calls prog 173 #[.slice none 0 0,.func (.func b) #[] g] a λe o=>e=.returned (.slice none 0 0)/\Below a a o:=by
 have c:=CQ a (.slice none 0 0) [] b g h (λ_=>false) (ie _) (λ_ _ _ m=>by cases m);go_enter func173,ntmps173;go_wp2_with fail;refine c.mono ?_;rintro e p ⟨n,rfl,f,k⟩
 have j:n= -1:=by
  rcases f with⟨i,_⟩|⟨q,l,_⟩
  .exact i
  simp at l
 subst j;clear f c;go_wp2_with fail;go_ret;exact⟨rfl,k⟩
theorem KJ(a c:World)(v g d j)(s:∀r c,(callFunc d r).run prog c=.ok (.enter d r) c)(p:Fct->Bool)(o:Below a a c)(E:rL a c v g)(u:g.length<=500)(C:∀(k:World) (q:Fct),Below a a k->q∈g->Calls prog d (#[iB q]++j) k λe f=>e=.returned (.bool (p q))/\Below k k f):Calls prog 173 #[v,.func (.func d) #[] j] c λe f=>∃l n m,e=.returned (.slice l n m)/\bO f (.slice l n m) (g.filter λF=> !p F)/\(∀i,(Value.slice l n m).ownBlock=some i->a.heap.size<=i)/\Below a a f:=by
 rcases E with⟨rfl,rfl⟩|⟨x,w,rfl,t,D,B⟩
 .refine mo_ (KL c d j s) λf A=>?_;exact⟨none,0,0,rfl,ie _,λi h=>Rm,o.trans (A.mono o.size)⟩
 refine(KK a c x w g d j s p o t D B u C).mono ?_;rintro e f ⟨rfl,y,z⟩;exact⟨_,_,_,rfl,y.b (le_trans (List.length_filter_le _ _) u),λi h=>(by cases h;exact t),z⟩
theorem xI{b h}(i:bP b h=0)(d:Rul->Bool)(first c f):(cH b d first c f h).length<=1000:=by
 have j:=(gN (gO i).1).2.1
 have:∀a:List Rul,(cH b d first c f a).length<=a.length*125:=λa=>by
  induction a with
  |nil=>exact le_refl _
  |cons g a ih=>
   have e:cH b d first c f (g::a)=(if d g then jv b first c f g else[])++cH b d first c f a:=by unfold cH;rw[List.flatMap_cons]
   have k:(jv b first c f g).length<=125:=by
    unfold jv qg;rw[length_map];exact le_trans (List.length_filter_le _ _) (rk f g 0 5)
   rw[e,length_append,List.length_cons];split
   .omega
   simp;omega
 have:=this h;omega
theorem CZ{b g}(j:bP b g=0){f}(i:bW b f=0)(c:Rul->Bool)(first h):∀d∈cH b c first h f g,cw b d=true:=λd a=>by
 refine mL (S:=c) (eU j) i d ?_
 obtain⟨m,k,a⟩:=mem_flatMap.1 a
 refine mem_flatMap.2 ⟨m,k,?_⟩
 split at a
 .rename_i hS
  rw[if_pos hS]
  obtain⟨n,l,rfl⟩:=mem_map.1 a
  exact mem_map.2 ⟨n,(List.mem_filter.1 l).1,rfl⟩
 cases a
theorem rM{h:World}{d v f g o}(k:bO h d f)(a:∀b,d.ownBlock=some b->b≠g):bO (h.setCell ⟨g,o,none⟩ v) d f:=by
 obtain⟨i,j,rfl,n,c⟩:=k;refine⟨i,j,rfl,n,?_⟩;rcases c with c|⟨b,q,rfl,l,c⟩
 .exact .inl c
 have a:=a b rfl;refine .inr ⟨b,q,rfl,by rw[cF];exact l,λp w m=>?_⟩;obtain⟨r,s,t,u⟩:=c p w m;exact⟨by rw[cb (Ne.symm a)];exact r,by rw[cb (Ne.symm a)];exact s,by rw[cb (Ne.symm a)];exact t,by rw[cb (Ne.symm a)];exact u⟩
structure aB (B:Nat) (w w':World):Prop where
 below:∀n,n<=B->n<=w.heap.size->Below n w w'
 size:w.heap.size<=w'.heap.size
 same:∀k,k<w.heap.size->k≠B->w'.heap[k]? =w.heap[k]?
theorem aB.b{f}{c d:World}(a:Below c c d):aB f c d:=⟨λ_ _ g=>a.mono g,a.size,λk h _=>a.block k h⟩
theorem aB.a{c}{l m n:World}(b:aB c l m)(k:aB c m n):aB c l n:=
 ⟨λj d f=>(b.below j d f).trans (k.below j d (le_trans f b.size)),le_trans b.size k.size,λi g h=>(k.same i (Nat.lt_of_lt_of_le g b.size) h).trans (b.same i g h)⟩
theorem aB.c{a o}(b:World)(g):aB a b (b.setCell ⟨a,o,none⟩ g):=
 ⟨λi d _=>(Below.refl _ _).setCell (p:=⟨a,o,none⟩) d _,T_,λh _ f=>kY (λe=>f e.symm)⟩
