import Derived.Test.YtlfccloaoopadagGreatDoorG28
import Derived.Test.YtlfccloaoopadagGreatDoorG31
import Derived.Test.YtlfccloaoopadagGreatDoorG52
open Go.Proofs.Tryz
set_option maxRecDepth 100000
set_option maxHeartbeats 0
open List (any_cons append_nil getElem?_eq_getElem getElem_mem length_append length_ofFn take_length)
open Nat (le_refl lt_of_lt_of_le)
namespace Go.Proofs.YtlfccloaoopadagGreatDoor
open Go.ChangeShapes Go.WideShapes Go.ChangeAt Go.RowKit
variable{p:Prop}
theorem VG(h:p:=by rw[hfe];simp):p:=h
theorem VH(h:p:=by show _=_;rw[HE.out,if_neg (by omega)]):p:=h
theorem abg(h:p:=by
 have H:Hid (ev ps rs f n=7):=VH
 go_wp2_with fail
 go_ret
 exact⟨TR,k2⟩):p:=h
theorem Ae(b:World)(r s m ps rs f)(n:Int)(p:bR b r ps)(q:ck b s rs)(o:bO b m f)(k:dU ps):Calls prog 208 #[.agg #[r,s],m,n] b λe y=>e=.returned (.int .i64 (ev ps rs f n))/\Below b b y:=by
 have d:=lp_ p;have h:=lr_ q;have l:=lf_ o;obtain⟨I,J,rfl,F,w⟩:=p;obtain⟨K,L,rfl,G,x⟩:=q;obtain⟨A,B,rfl,E,v⟩:=o;clear w x v;by_cases hpe:bP ps rs=0
 .by_cases hfe:bW ps f=0
  .have HE:Hid (ev ps rs f n=if 0<=n/\n<(rs.length:Int) then 0 else 7):=by show _=_;rw[ev,if_neg Ui,if_neg VG]
   go_enter func208,ntmps208;go_wp2_with fail;refine(n8 _ _ _ ps rs (d _ (bH _ _)) (h _ (bH _ _)) k).mono ?_;rw[hpe];rintro e t ⟨rfl,hb1⟩;have c:=tX hb1;obtain⟨i,j,_⟩:=id c;have a:=cU (bH _ _) hb1;clear hb1;go_wp2_with fail;refine(nR _ _ _ ps f (d _ a) (l _ a)).mono ?_;rw[hfe];rintro e z ⟨rfl,g⟩;have u:=jL g c;have k2:=bt_ a g;clear g c i j;obtain⟨i,j,_⟩:=id u;by_cases C:n<0
   .exact abg
   by_cases D:(rs.length:Int)<=n
   .exact abg
   have H:Hid (ev ps rs f n=0):=by show _=_;rw[HE.out,if_pos Q0]
   go_wp2_with fail;go_ret;exact⟨TR,k2⟩
  rw[GJ hpe hfe];go_enter func208,ntmps208;go_wp2_with fail;refine(n8 _ _ _ ps rs (d _ (bH _ _)) (h _ (bH _ _)) k).mono ?_;rw[hpe];rintro e t ⟨rfl,hb1⟩;have c:=tX hb1;obtain⟨i,j,_⟩:=id c;have a:=cU (bH _ _) hb1;clear hb1;go_wp2_with fail;refine mo_ (nR _ _ _ ps f (d _ a) (l _ a)) λz g=>?_;go_wp2_with fail;go_ret;exact⟨rfl,a.trans (g.mono a.size)⟩
 rw[GK hpe];go_enter func208,ntmps208;go_wp2_with fail;refine mo_ (n8 _ _ _ ps rs (d _ (bH _ _)) (h _ (bH _ _)) k) λt hb1=>?_;exact Zd
theorem wi{b f a v}(hfe:bW b f=0)(g:cf b a=0)(h:cT v=true):ja v a.pred a.args=cv v a/\m_ b f (cv v a)=(eK f (bL (cv v a)),(cd f (bL (cv v a))).isSome,0):=by
 obtain⟨c,d⟩:=nS (v:=v) g (eR hfe).2.1 h;exact⟨by rw[ja,if_pos c];rfl,by rw[m_,if_neg VG,if_neg (by rw[d];simp)]⟩
theorem aav(h:p:=by
 rw[e1] at this
 exact this.mono λe w' ⟨h1,h2⟩=>⟨⟨_,h1⟩,h2⟩):p:=h
theorem Ag(h:World)(u p j f d l m c)(s:bR h u j)(r:bO h p f)(t:cr h (.slice l d.args m) d.args)(H:bW j f=0)(F:cf j d=0)(K:cT c=true):Calls prog 257 #[u,p,.agg #[d.pred,.slice l d.args m],.agg #[c.x,c.y,c.z]] h λe w'=>e=.returned (.tuple #[.int .i64 (eK f (bL (cv c d))),.bool (cd f (bL (cv c d))).isSome])/\Below h h w':=by
 have B:=lp_ s;have v:=lf_ r;have C:=lt_ t;obtain⟨e1,n⟩:=wi (v:=c) H F K;obtain⟨L,M,rfl,R,J⟩:=s;obtain⟨D,E,rfl,Q,I⟩:=r;clear J I t
 have A:Hid (∀g,Below h h g->Calls prog 176 #[.agg #[d.pred,.slice l d.args m],.agg #[c.x,c.y,c.z]] g λe w'=>(∃o,e=.returned (.tuple #[.agg #[.int .i64 (cv c d).pred,.int .i64 (cv c d).a,.int .i64 (cv c d).b,.int .i64 (cv c d).val],o]))/\Below g g w'):=λg k=>by
  have:=xD g _ d.pred d.args c (C _ k);exact aav
 have w:Hid (∀g,Below h h g->Calls prog 177 #[.slice L j M,.slice D f E,.agg #[.int .i64 (cv c d).pred,.int .i64 (cv c d).a,.int .i64 (cv c d).b,.int .i64 (cv c d).val]] g λe w'=>e=.returned (.tuple #[.int .i64 (eK f (bL (cv c d))),.bool (cd f (bL (cv c d))).isSome,.int .i64 0])/\Below g g w'):=λg k=>by
  have:=zw g _ _ j f (cv c d).pred (cv c d).a (cv c d).b (cv c d).val (B _ k) (v _ k);rw[show(⟨(cv c d).pred,(cv c d).a,(cv c d).b,(cv c d).val⟩:Fct)=cv c d from rfl,n] at this;exact this
 clear e1 n;generalize eK f (bL (cv c d))=P at*;generalize(cd f (bL (cv c d))).isSome=O at*;generalize cv c d=N at*;go_enter func257,ntmps257;go_wp2_with fail;refine(A _ (((Below.refl _ _).alloc (le_refl _) _).alloc Q1 _)).mono ?_;rintro e S ⟨⟨o,rfl⟩,q⟩;have i:=(((Below.refl _ _).alloc (le_refl _) _).alloc Q1 _).trans (q.mono RD);clear q;go_wp2_with fail;refine mo_ (w _ (i.alloc i.size _)) λT G=>?_;go_wp2_with fail;go_ret2;exact⟨rfl,(i.alloc i.size _).trans (G.mono (by have:=i.size;simp;omega))⟩
theorem Am{h:World}{y f}(B:dC h y f):∃m:List aI,tq h y m/\m.map aI.l=f/\∀d∈m,d.n=d.l.atom.args.length/\cr h (.slice d.a d.l.atom.args d.c) d.l.atom.args:=by
 obtain⟨o,q,w,v,g⟩:=B;rcases g with rfl|⟨p,x,E,F,g⟩
 .exact⟨[],⟨o,q,w,v,.inl rfl⟩,rfl,λd g=>by cases g⟩
 have t:∀b:Fin f,∃d:aI,d.l=f[b]/\qU h p (x+b.1*3) d/\d.n=d.l.atom.args.length/\cr h (.slice d.a d.l.atom.args d.c) d.l.atom.args:=λb=>by
  obtain⟨C,r,G,i,s⟩:=g b.1 f[b] (getElem?_eq_getElem b.2);have D:=s;obtain⟨z,A,rfl,_⟩:=D;exact⟨⟨f[b],z,f[b].atom.args.length,A⟩,rfl,⟨C,r,i⟩,rfl,s⟩
 have j:=λb=>Classical.choose_spec (t b);refine⟨List.ofFn λb=>Classical.choose (t b),⟨o,q,by rw[length_ofFn];exact w,by rw[length_ofFn];exact v,.inr ⟨p,x,E,F,λb d k=>?_⟩⟩,?_,λd g=>?_⟩
 .have u:b<f.length:=by have:=(List.getElem?_eq_some_iff.1 k).1;rwa[length_ofFn] at this
  rw[List.getElem?_ofFn,dif_pos u] at k;rw[<-Option.some.inj k];exact(j ⟨b,u⟩).2.1
 .apply List.ext_getElem
  .rw[List.length_map,length_ofFn]
  intro b r i;rw[List.getElem_map,List.getElem_ofFn];exact(j ⟨b,i⟩).1
 obtain⟨b,rfl⟩:=(List.mem_ofFn).1 g;exact(j b).2.2
def pH(f:List Fct)(v:ae)(l:Ltr):Bool:=kD f v l==l.neg
theorem GC(f a b):b.any (pH f a)= !cS f a b:=by
 induction b with
 |nil=>rfl
 |cons c b ih=>
  rw[any_cons,ih];show(pH f a c|| !(b.all (lD f a)))= !(lD f a c&&b.all (lD f a));rw[pH,lD];cases kD f a c<;>cases c.neg<;>simp
theorem GE(w:World)(s r k:Nat)(q m:Value)(o:List Prd)(f:List Fct)(g:ae)(h:aI)(E:bR w q o)(C:bO w m f)(D:bW o f=0)(F:cT g=true)(t:cf o h.l.atom=0)(G:h.n=h.l.atom.args.length)(u:cr w (.slice h.a h.l.atom.args h.c) h.l.atom.args)(K:w.cell? s=some q)(L:w.cell? r=some m)(M:w.cell? k=some (.int .i64 g.x))(N:w.cell? ⟨k,1,none⟩=some (.int .i64 g.y))(O:w.cell? ⟨k,2,none⟩=some (.int .i64 g.z))(P:s<w.heap.size)(Q:r<w.heap.size)(A:k<w.heap.size):Calls prog 256 #[h.b,.pointer (some ⟨s,0,none⟩),.pointer (some ⟨r,0,none⟩),.pointer (some ⟨k,0,none⟩)] w λe B=>e=.returned (.bool (pH f g h.l))/\Below w w B:=by
 obtain⟨i,H,ag,I⟩:=h;dsimp only at G t u;subst G;rw[aI.b];dsimp only;have J:Hid (∀j,Below w w j->Calls prog 257 #[q,m,.agg #[i.atom.pred,.slice H i.atom.args I],.agg #[g.x,g.y,g.z]] j λe B=>e=.returned (.tuple #[.int .i64 (eK f (bL (cv g i.atom))),.bool (kD f g i)])/\Below j j B):=λj v=>Ag j q m o f i.atom H I g (bR.a v E) (bO.a v C) (cr.a v u) D t F;obtain⟨ac,ad,rfl,_⟩:=E;obtain⟨U,V,rfl,_⟩:=C;clear u D t F;rw[pH];have X:=λd=>(bF (o:=0) (bH w d) P).trans K;have Y:=λd=>(bF (o:=0) (bH w d) Q).trans L;have Z:=λd=>(bF (o:=0) (bH w d) A).trans M;have aa:=λd=>(bF (o:=1) (bH w d) A).trans N;have ab:=λd=>(bF (o:=2) (bH w d) A).trans O;generalize eK f (bL (cv g i.atom))=W at*;generalize kD f g i=af at*;go_enter func256,ntmps256;go_wp2_with fail;refine mo_ (J _ (bH _ _)) λS hb1=>?_;have T:S.cell? w=some (.bool i.neg):=Ua;have R:=cU (bH _ _) hb1;clear hb1;go_wp2_with fail;go_ret;exact⟨rfl,R⟩
theorem VI(h:p:=by have:=hx.size;omega):p:=h
theorem aa5(h:p:=by exact⟨(bF hb hlt).trans h.1,(bF hb hlt).trans h.2.1,(bF hb hlt).trans h.2.2⟩):p:=h
theorem Ad(b:World)(m j i o f k c)(C:bR b m o)(w:bO b j f)(hb:dC b i k)(A:bW o f=0)(D:cT c=true)(v:∀l∈k,cf o l.atom=0):Calls prog 237 #[m,j,i,.agg #[c.x,c.y,c.z]] b λe p=>e=.returned (.bool (cS f c k))/\Below b b p:=by
 obtain⟨u,E,s,t⟩:=Am hb;have L:Hid (∀N O P,Below b b (((b.alloc N).alloc O).alloc P)):=λ_ _ _=>(((Below.refl _ _).alloc (le_refl _) _).alloc Q1 _).alloc RD _;obtain⟨d,hW1⟩:=ex_ (((b.alloc (.cells #[m] 27)).alloc (.cells #[j] 65)).alloc (.cells #[c.x,c.y,c.z] 138));have n:Below b b d:=by rw[<-hW1];exact L _ _ _
 have Z:d.heap.size=b.heap.size+3:=UA;have F:d.cell? b=some m:=UB;have G:d.cell? ⟨b.heap.size+1,0,none⟩=some j:=UB;have H:d.cell? ⟨b.heap.size+1+1,0,none⟩=some (.int .i64 c.x):=UB;have I:d.cell? ⟨b.heap.size+1+1,1,none⟩=some (.int .i64 c.y):=UB;have J:d.cell? ⟨b.heap.size+1+1,2,none⟩=some (.int .i64 c.z):=UB
 have B:jm 3 qU d i u:=by
  refine jm.a (λb p R W g hb hlt h=>?_) n E;exact aa5
 have K:Hid (Calls prog 174 #[i,.func (.func 256) #[] #[.pointer (some ⟨b,0,none⟩),.pointer (some ⟨b.heap.size+1,0,none⟩),.pointer (some ⟨b.heap.size+1+1,0,none⟩)]] d λe p=>e=.returned (.bool (!cS f c k))/\Below d d p):=by
  have e:u.any (λg=>pH f c g.l)= !cS f c k:=by
   rw[<-GC,<-s,List.any_map];rfl
  rw[<-e];refine zG d i u _ _ (enters_of func256 SI rfl) _ B (λQ g hx r=>?_);have q:=bt_ n hx;exact GE Q _ _ _ m j o f c g (bR.a q C) (bO.a q w) A D (v _ (s▸List.mem_map_of_mem r)) (t g r).1 (cr.a q (t g r).2) ((bF hx Q0).trans F) ((bF hx Q0).trans G) ((bF hx Q0).trans H) ((bF hx Q0).trans I) ((bF hx Q0).trans J) VI VI VI
 obtain⟨X,Y,rfl,_⟩:=C;obtain⟨U,V,rfl,_⟩:=w;obtain⟨S,T,rfl,_⟩:=hb;clear E t s B F G H I J A D v;go_enter func237,ntmps237;go_wp2_with fail;refine mo_ K.out λaa M=>?_;go_wp2_with fail;go_ret;exact⟨Q1,n.trans (M.mono n.size)⟩
theorem Hf{c b}(a:cx c b=0)(d:0<=b.src):bJ c b.head.pred≠0:=by
 rw[cx] at a;split at a
 .contradiction
 split at a
 .contradiction
 split at a
 .contradiction
 split at a
 .contradiction
 unfold gB at a;split at a
 .contradiction
 split at a
 .contradiction
 rename_i h4;intro e;exact h4 ⟨e,.inl Q0⟩
theorem Af{k a}(d:k=1\/k=2\/k=3)(b:0<=a)(c:a<=15):cp k a=0:=by
 unfold cp jq;rw[if_neg Q0,if_neg (by rw[if_neg (show¬k=0 by omega)];omega)]
theorem G7{k a b}(c:k=1\/k=2\/k=3)(d:0<=a)(f:a<=15)(g:0<=b)(h:b<=15):mI k a b=fG k a b:=by
 rw[mI,if_pos (by rw[ij,if_pos (Af c d f),Af c g h])]
theorem GT{b f a c}(d:¬0<=a.src):dI b f a c a.body.length=a.n:=by unfold dI;rw[if_neg Q0]
theorem GR{b f a c}{k:Nat}(g:k<a.body.length)(d:a.src=(k:Int)):dI b f a c a.body.length=fG (bJ b a.head.pred) (eK f (bL (cv c a.body[k].atom))) a.n:=by
 unfold dI;rw[if_pos Q0,oU,d,Int.toNat_natCast,getElem?_eq_getElem g];rfl
theorem VJ(h:p:=by rw[<-hW1];exact(((Below.refl _ _).alloc (le_refl _) _).alloc (by simp) _).alloc (by simp;omega) _):p:=h
theorem VK(h:p:=by simp[results,results238,go_sem,r0,r1,r2,r3]):p:=h
theorem GQ(h:World)(aV aE j f c T V aD d)(aL:bR h aV j)(aH:bO h aE f)(aI:cr h (.slice T c.head.args V) c.head.args)(aF:dC h aD c.body)(al:cx j c=0)(W:bW j f=0)(ao:cT d=true):Calls prog 238 #[aV,aE,.agg #[c.head.pred,.slice T c.head.args V,c.src,c.n,aD],.agg #[d.x,d.y,d.z]] h λe w'=>e=.returned (.agg #[.int .i64 (co j f c d).pred,.int .i64 (co j f c d).a,.int .i64 (co j f c d).b,.int .i64 (co j f c d).val])/\Below h h w':=by
 have az:=lp_ aL;have bg:=lf_ aH;have bl:=hid_ aF;have ay:=lt_ aI;obtain⟨cu,bd,_⟩:=eR W;obtain⟨Y,aU,cl,bV,bX,bY,cm⟩:=f_ al;have bf:=hid_ aU;have aw:=hid_ W;have bn:=hid_ ao
 have bj:Hid (0<=c.src->bJ j c.head.pred=1\/bJ j c.head.pred=2\/bJ j c.head.pred=3):=λbG=>by
  have h1:=Hf al bG;have h2:=Ai bd (gP Y).1;omega
 have hpr:=rB Y;obtain⟨R,heh⟩:∃R:Nat,c.head.pred=(R:Int):=⟨_,hpr.2⟩;have aG:R<j.length:=Uz;have e1:=(wi (v:=d) W Y ao).1
 have bi:Hid (∀g,Below h h g->Calls prog 176 #[.agg #[c.head.pred,.slice T c.head.args V],.agg #[d.x,d.y,d.z]] g λe w'=>(∃S,e=.returned (.tuple #[.agg #[c.head.pred,.int .i64 (bZ d c.head.args 0),.int .i64 (bZ d c.head.args 1),.int .i64 0],S]))/\Below g g w'):=λg m=>by
  have:=xD g _ c.head.pred c.head.args d (ay _ m);exact aav
 obtain⟨b0,b1,rfl,_⟩:=aL;obtain⟨b9,cc,rfl,_⟩:=aH;obtain⟨aa,ab,rfl,_⟩:=aF;have ax:Hid (co j f c d=⟨c.head.pred,bZ d c.head.args 0,bZ d c.head.args 1,dI j f c d c.body⟩):=rfl;have Z:=hid_ heh;clear heh hpr e1 Y aU W ao al aI bd ay;go_enter func238,ntmps238;go_wp2_with fail;obtain⟨r,hW1⟩:=ex_ (((h.alloc (.cells #[c.head.pred,.slice T c.head.args V,c.src,c.n,.slice aa c.body ab] 58)).alloc (.cells #[d.x,d.y,d.z] 138)).alloc (.cells #[.int .i64 0,.int .i64 0,.int .i64 0,.int .i64 0] 93));have J:Below h h r:=VJ;have b5:r.heap.size=h.heap.size+3:=UA;have aW:r.cell? ⟨h,2,none⟩=some (.int .i64 c.src):=UB;have aX:r.cell? ⟨h,3,none⟩=some (.int .i64 c.n):=UB;have b4:r.cell? ⟨h,4,none⟩=some (.slice aa c.body ab):=UB;have aZ:r.cell? ⟨h.heap.size+1,0,none⟩=some (.int .i64 d.x):=UB;have a0:r.cell? ⟨h.heap.size+1,1,none⟩=some (.int .i64 d.y):=UB;have a1:r.cell? ⟨h.heap.size+1,2,none⟩=some (.int .i64 d.z):=UB
 have F:∀o,o<4->r.cell? ⟨h.heap.size+1+1,o,none⟩=some (.int .i64 0)/\r.frozen? ⟨h.heap.size+1+1,o,none⟩=false:=by
  exact ZY
 rw[hW1];clear hW1;obtain⟨l,ac⟩:=ex_ (h.heap.size+1+1);obtain⟨be,ad⟩:=ex_ (h.heap.size+1);rw[ac] at F;rw[ad] at aZ a0 a1;have B:h.heap.size<=l:=Q0;have X:l<r.heap.size:=Q0;have ap:be<r.heap.size:=Q0;have L:h.heap.size<r.heap.size:=Q0;rw[ac,ad];clear ac ad b5;refine(bi r J).mono ?_;rintro e i ⟨⟨S,rfl⟩,D⟩;have aO:=bt_ J D;have cj:=D.size;have bE:=λo=>(bF (o:=3) (bH i o) (show h.heap.size<i.heap.size by omega)).trans ((bF D L).trans aX);have bD:=λo=>(bF (o:=2) (bH i o) (show h.heap.size<i.heap.size by omega)).trans ((bF D L).trans aW);by_cases am:0<=c.src
 .obtain⟨s,ai⟩:∃s:Nat,c.src=(s:Int):=⟨c.src.toNat,Q0⟩;have ah:s<c.body.length:=Q0;have ci:=am;have bm:=hid_ ai;have P:Hid (dI j f c d c.body.length=fG (bJ j c.head.pred) (eK f (bL (cv d c.body[s].atom))) c.n):=GR ah ai;obtain⟨ar,au,bU,aK,aj,bM⟩:=cN bl ah;obtain⟨rfl,rfl⟩:aa=some ⟨ar,au,none⟩/\ab=bU:=by simpa using aK
  obtain⟨_,aQ,b7,aR,aq⟩:=bM;have bT:=aq;obtain⟨aB,aC,rfl,_⟩:=bT;have bh:=hid_ (λg m=>Ag g _ _ j f c.body[s].atom aB aC d (az _ m) (bg _ m) (cr.a m aq) aw (bf _ (getElem_mem ah)) bn.out);have ag:=rh aw (bL (cv d c.body[s].atom))
  have bk:Hid (∀g:World,Calls prog 258 #[.int .i64 (bJ j c.head.pred),.int .i64 (eK f (bL (cv d c.body[s].atom))),c.n] g λe w'=>(∃S,e=.returned (.tuple #[.int .i64 (dI j f c d c.body),S]))/\Below g g w'):=λg=>by
   rw[P.out,<-G7 (bj am) ag.1 ag.2 bX bY];exact(Hy _ _ _ g).mono λe w' ⟨h1,h2⟩=>⟨⟨_,h1⟩,h2⟩
  clear aK aq ai P ag;generalize eK f (bL (cv d c.body[s].atom))=ce at*;generalize(cd f (bL (cv d c.body[s].atom))).isSome=ca at*;generalize c.body[s].atom.args.length=bw at*;generalize c.body[s].atom.pred=bx at*;go_wp2_with fail;refine Hv (λk=>Below i i k/\i.heap.size<k.heap.size/\k.cell? i=some (.int .i64 c.head.pred)/\k.cell? ⟨i,1,none⟩=some (.int .i64 (bZ d c.head.args 0))/\k.cell? ⟨i,2,none⟩=some (.int .i64 (bZ d c.head.args 1))/\k.cell? ⟨i,3,none⟩=some (.int .i64 c.n)/\k.frozen? ⟨i,3,none⟩=false) ⟨bH _ _,Q1,Re,Re,Re,Re,Re⟩ ?_;rintro k ⟨bI,H,a3,a4,a5,a6,a7⟩;clear bD bE;have A:=cU D bI;have M:=bt_ J A;have ck:=A.size;have an:c.src.toNat=s:=by rw[bm.out,Int.toNat_natCast]
  have aS:k.cell? ⟨ar,au+c.src.toNat*3+1,none⟩=some (.int .i64 bx):=by rw[an];exact(bF M aj).trans aQ
  have aT:k.cell? ⟨ar,au+c.src.toNat*3+2,none⟩=some (.slice aB bw aC):=by rw[an];exact(bF M aj).trans aR
  have aJ:=lt_of_lt_of_le aj M.size;have ch:=bV;have bp:=λ(g:Low k.heap.size k)=>(bF (cU A g.low) L).trans b4;have bq:=λ(g:Low k.heap.size k)=>(bF (cU A g.low) L).trans aW;have br:=lo_ aJ aS;have bs:=lo_ aJ aT;have bt:=λ(g:Low k.heap.size k)=>(bF (cU A g.low) ap).trans aZ;have bu:=λ(g:Low k.heap.size k)=>(bF (cU A g.low) ap).trans a0;have bv:=λ(g:Low k.heap.size k)=>(bF (cU A g.low) ap).trans a1;clear an;refine dz k.heap.size SI SI ?_;repeat(go_big_quiet_step (first|(go_at_call 257;exact dy (bh _ (M.trans ((Low.low _).mono M.size))))))
  refine wpQuiet_nil ?_;rintro v ⟨⟨_,E⟩,rfl⟩;clear bp bq br bs bt bu bv aS aT aQ aR;have U:=cU A E;have aP:=bt_ J U;have av:=(bF E H).trans a3;have a8:=(bF E H).trans a4;have a9:=(bF E H).trans a5;have ba:=(bF E H).trans a6;have bb:=(E.frozen (p:=⟨i,3,none⟩) H).trans a7;have G:=lt_of_lt_of_le H E.size;have bP:=(bF U L).trans aX;obtain⟨N,O,b2,aN,bN,aM⟩:=cN (az _ (Below.refl _ _)) aG;obtain⟨rfl,rfl⟩:b0=some ⟨N,O,none⟩/\b1=b2:=by simpa using aN
  have ak:c.head.pred.toNat=R:=by rw[Z.out,Int.toNat_natCast]
  have b3:v.cell? ⟨N,O+c.head.pred.toNat*3+2,none⟩=some (.int .i64 (bJ j c.head.pred)):=by
   rw[ak,bF aP bN,aM.2.2,bJ,ak,getElem?_eq_getElem aG];rfl
  have cf:(0:Int)<=c.head.pred:=by rw[Z.out];omega
  have cg:c.head.pred<(j.length:Int):=by rw[Z.out];omega
  clear aN aM ak a3 a4 a5 a6 a7;have Q:Hid (∀g,Below v v g->(λw'=>w'.cell? i=some (.int .i64 c.head.pred)/\w'.cell? ⟨N,O+c.head.pred.toNat*3+2,none⟩=some (.int .i64 (bJ j c.head.pred))/\w'.cell? ⟨h,3,none⟩=some (.int .i64 c.n)) g):=λg m=>⟨(bF m G).trans av,(bF m (by have:=aP.size;omega)).trans b3,(bF m (by have:=U.size;omega)).trans bP⟩;have bo:Hid (∀g,Below v v g->∀aY,(λw'=>w'.cell? i=some (.int .i64 c.head.pred)/\w'.cell? ⟨N,O+c.head.pred.toNat*3+2,none⟩=some (.int .i64 (bJ j c.head.pred))/\w'.cell? ⟨h,3,none⟩=some (.int .i64 c.n)) (g.setCell ⟨i,3,none⟩ aY)):=λg m aY=>⟨(cP Q0).trans (Q g m).1,(cb Q0).trans (Q g m).2.1,(cb Q0).trans (Q g m).2.2⟩;have aA:=hid_ λg (m:Below v v g)=>an_ ((bF m G).trans ba) ((m.frozen (p:=⟨i,3,none⟩) G).trans bb);go_wp2_with fail;go_region_held3 (λw'=>w'.cell? i=some (.int .i64 c.head.pred)/\w'.cell? ⟨N,O+c.head.pred.toNat*3+2,none⟩=some (.int .i64 (bJ j c.head.pred))/\w'.cell? ⟨h,3,none⟩=some (.int .i64 c.n)) (first|(refine Q _ ?_;(first|exact Below.refl _ _|exact(Below.refl _ _).drew|exact u))|exact bo _ u _) (first|(go_at_call 258;refine(bk _).mono ?_;rintro e a2 ⟨⟨b8,rfl⟩,bK⟩;have u:Below v v a2:=((Below.refl _ _).drew).trans bK;have bc:=(aA _ u).1;have b6:=(aA _ u).2));have af:=cU U u;have bQ:=bt_ J af;have cn:=lt_of_lt_of_le G u.size;obtain⟨C,w⟩:=ex_ (a2.setCell ⟨i,3,none⟩ (.int .i64 (dI j f c d c.body)));have bS:Below h h C:=by rw[<-w];exact bQ.setCell (p:=⟨i,3,none⟩) (show h.heap.size<=i.heap.size by omega) _
  have cp:C.cell? i=some (.int .i64 c.head.pred):=by rw[<-w];exact(cP Q0).trans ((bF u G).trans av)
  have cq:C.cell? ⟨i,1,none⟩=some (.int .i64 (bZ d c.head.args 0)):=by rw[<-w];exact(cP Q0).trans ((bF u G).trans a8)
  have cs:C.cell? ⟨i,2,none⟩=some (.int .i64 (bZ d c.head.args 1)):=by rw[<-w];exact(cP Q0).trans ((bF u G).trans a9)
  have ct:C.cell? ⟨i,3,none⟩=some (.int .i64 (dI j f c d c.body)):=by rw[<-w];exact fC bc
  have I:∀q,q<4->C.cell? ⟨l,q,none⟩=some (.int .i64 0)/\C.frozen? ⟨l,q,none⟩=false:=λq K=>by
   rw[<-w];exact⟨(cb Q0).trans ((bF af X).trans (F q K).1),gI.trans ((af.frozen (p:=⟨l,q,none⟩) X).trans (F q K).2)⟩
  obtain⟨r0,bz⟩:=I 0 Q0;obtain⟨r1,bA⟩:=I 1 Q0;obtain⟨r2,bB⟩:=I 2 Q0;obtain⟨r3,bC⟩:=I 3 Q0;rw[w];clear w bc b6 av a8 a9 ba bb I F;go_wp2_with fail;refine bodyPost_ret (v:=.agg #[c.head.pred,.int .i64 (bZ d c.head.args 0),.int .i64 (bZ d c.head.args 1),.int .i64 (dI j f c d c.body)]) VK rfl ⟨by rw[ax.out],?_⟩;exact(((bS.setCell (p:=⟨l,0,none⟩) B _).setCell (p:=⟨l,1,none⟩) B _).setCell (p:=⟨l,2,none⟩) B _).setCell (p:=⟨l,3,none⟩) B _
 have P:Hid (dI j f c d c.body.length=c.n):=GT am
 have t:∀q,q<4->∀o,(i.alloc o).cell? ⟨l,q,none⟩=some (.int .i64 0)/\(i.alloc o).frozen? ⟨l,q,none⟩=false:=λq K o=>
  ⟨(bF (bH i o) (show l<i.heap.size by omega)).trans ((bF D X).trans (F q K).1),((bH i o).frozen (p:=⟨l,q,none⟩) (show l<i.heap.size by omega)).trans ((D.frozen (p:=⟨l,q,none⟩) X).trans (F q K).2)⟩
 have r0:=λo=>(t 0 Q0 o).1;have r1:=λo=>(t 1 Q0 o).1;have r2:=λo=>(t 2 Q0 o).1;have r3:=λo=>(t 3 Q0 o).1;have bz:=λo=>(t 0 Q0 o).2;have bA:=λo=>(t 1 Q0 o).2;have bB:=λo=>(t 2 Q0 o).2;have bC:=λo=>(t 3 Q0 o).2;clear t F;go_wp2_with fail;refine bodyPost_ret (v:=.agg #[c.head.pred,.int .i64 (bZ d c.head.args 0),.int .i64 (bZ d c.head.args 1),c.n]) VK rfl ⟨by rw[ax.out,P.out],?_⟩;exact(((((aO.alloc aO.size _).setCell (p:=⟨l,0,none⟩) B _).setCell (p:=⟨l,1,none⟩) B _).setCell (p:=⟨l,2,none⟩) B _).setCell (p:=⟨l,3,none⟩) B _)
def ni(n:Int):Bool:= !bQ n 0 4
theorem GD(a):[a.x,a.y,a.z].any ni= !cT a:=by
 unfold cT;simp only[any_cons,List.any_nil,ni];cases bQ a.x 0 4<;>cases bQ a.y 0 4<;>cases bQ a.z 0 4<;>rfl
theorem VL(h:p:=by unfold ni bQ;simp;omega):p:=h
theorem acb(h:p:=by
 rw[e]
 go_enter func235,ntmps235
 exact Ze):p:=h
theorem GU(n:Int)(a:World):Calls prog 235 #[n] a λe b=>e=.returned (.bool (ni n))/\Below a a b:=by
 by_cases c:n<0
 .have e:ni n=true:=VL;exact acb
 by_cases d:4<n
 .have e:ni n=true:=VL;exact acb
 have e:ni n=false:=VL;exact acb
theorem VM(h:p:=by show _=_;rw[f9,if_neg (by rw[hfe];simp),hcv];rfl):p:=h
theorem VN(h:p:=by simp[results,results198,go_sem,r0,r1,r2,r3]):p:=h
theorem wh(h:World)(aL aO az d g f)(n:Int)(c)(aE:bR h aL d)(aF:ck h aO g)(aD:bO h az f)(a6:dU d):Calls prog 198 #[.agg #[aL,aO],az,n,.agg #[c.x,c.y,c.z]] h λe ao=>e=.returned (.tuple #[.bool (iF d g f n c),.agg #[.int .i64 (gL d g f n c).pred,.int .i64 (gL d g f n c).a,.int .i64 (gL d g f n c).b,.int .i64 (gL d g f n c).val],.int .i64 (f9 d g f n c)])/\Below h h ao:=by
 have V:=lp_ aE;have aw:=lr_ aF;have U:=lf_ aD;obtain⟨aJ,aK,rfl,bw,a7⟩:=aE;obtain⟨am,an,rfl,bz,a8⟩:=aF;obtain⟨br,bs,rfl,bt,a5⟩:=aD;clear a7 a8 a5;go_enter func198,ntmps198;go_wp2_with fail;obtain⟨k,hW1⟩:=ex_ ((((h.alloc (.cells #[.slice aJ d aK,.slice am g an] 30)).alloc (.cells #[c.x,c.y,c.z] 138)).alloc (.cells #[.int .i64 0,.int .i64 0,.int .i64 0,.int .i64 0] 93)));have G:Below h h k:=VJ;have bj:k.heap.size=h.heap.size+3:=UA;have aM:k.cell? h=some (.slice aJ d aK):=UB;have aN:k.cell? ⟨h,1,none⟩=some (.slice am g an):=UB;have aj:k.cell? ⟨h.heap.size+1,0,none⟩=some (.int .i64 c.x):=UB;have ak:k.cell? ⟨h.heap.size+1,1,none⟩=some (.int .i64 c.y):=UB;have al:k.cell? ⟨h.heap.size+1,2,none⟩=some (.int .i64 c.z):=UB
 have Q:∀o,o<4->k.cell? ⟨h.heap.size+1+1,o,none⟩=some (.int .i64 0)/\k.frozen? ⟨h.heap.size+1+1,o,none⟩=false:=by
  exact ZY
 rw[hW1];clear hW1;obtain⟨j,ad⟩:=ex_ (h.heap.size+1+1);obtain⟨R,af⟩:=ex_ (h.heap.size+1);rw[ad] at Q;rw[af] at aj ak al;have q:h.heap.size<=j:=Q0;have aH:j<k.heap.size:=Q0;have ag:R<k.heap.size:=Q0;have aI:h.heap.size<k.heap.size:=Q0;rw[ad,af];clear ad af bj;have m:=hid_ λv (hx:Below k k v) o (ho:o<4)=>an_ ((bF hx aH).trans (Q o ho).1) ((hx.frozen (p:=⟨j,o,none⟩) aH).trans (Q o ho).2);have B:=hid_ λv (hx:Below k k v)=>an_ ((bF hx aI).trans aM) (an_ ((bF hx aI).trans aN) (an_ ((bF hx ag).trans aj) (an_ ((bF hx ag).trans ak) ((bF hx ag).trans al))))
 have ay:Hid (∀v,Below k k v->Calls prog 236 #[.slice (some ⟨R,0,none⟩) 3 3,.func (.func 235) #[] #[]] v λe ao=>e=.returned (.bool (!cT c))/\Below v v ao):=λv hx=>by
  rw[<-GD];obtain⟨_,_,H,I,J⟩:=B v hx;refine F0 v _ [c.x,c.y,c.z] _ #[] (enters_of func235 SI rfl) _ ⟨_,3,rfl,Q1,.inr ⟨R,0,rfl,VI,λi bC A=>?_⟩⟩ (λbp bf _ _=>GU bf bp);match i,A with
  |0,A=>cases A;exact H
  |1,A=>cases A;exact I
  |2,A=>cases A;exact J
  |i+3,A=>simp at A
 clear aM aN aj ak al Q;refine mo_ (Ae k _ _ _ d g f n (V _ G) (aw _ G) (U _ G) a6) λaR w=>?_;have ah:=bt_ G w;by_cases hfe:ev d g f n=0
 .obtain⟨ap,aq,aS,aT⟩:=Ah hfe;rw[hfe];obtain⟨l,rfl⟩:∃l:Nat,n=(l:Int):=⟨n.toNat,Q0⟩;have P:l<g.length:=Q0;have a0:=hid_ (eU ap);have au:=hid_ aq;cases hcv:cT c
  .have s:Hid (f9 d g f l c=3):=VM;have E:Hid (iF d g f l c=false):=by show _=_;rw[iF,s.out];rfl
   have F:Hid (gL d g f l c=⟨0,0,0,0⟩):=by show _=_;rw[gL,s.out];rfl
   clear hfe ap aq aS aT;go_wp2_with fail;refine(ay aR w).mono ?_;rw[hcv];rintro e u ⟨rfl,L⟩;have M:=bt_ ah L;have r:=cU w L;obtain⟨r0,Z⟩:=m _ r 0 Q0;obtain⟨r1,aa⟩:=m _ r 1 Q0;obtain⟨r2,ab⟩:=m _ r 2 Q0;obtain⟨r3,ac⟩:=m _ r 3 Q0;go_wp2_with fail;refine bodyPost_ret (v:=.tuple #[.bool false,.agg #[.int .i64 0,.int .i64 0,.int .i64 0,.int .i64 0],.int .i64 3]) VN rfl ⟨by rw[s.out,E.out,F.out],?_⟩;exact(((M.setCell (p:=⟨j,0,none⟩) q _).setCell (p:=⟨j,1,none⟩) q _).setCell (p:=⟨j,2,none⟩) q _).setCell (p:=⟨j,3,none⟩) q _
  have s:Hid (f9 d g f l c=0):=VM;have E:Hid (iF d g f l c=cS f c g[l].body):=by show _=_;rw[iF,if_neg (by rw[s.out];simp),Int.toNat_natCast,getElem?_eq_getElem P];rfl
  have F:Hid (gL d g f l c=dl d f g[l] c):=by show _=_;rw[gL,if_neg (by rw[s.out];simp),Int.toNat_natCast,getElem?_eq_getElem P];rfl
  clear hfe ap aq aS aT;go_wp2_with fail;refine(ay aR w).mono ?_;rw[hcv];rintro e u ⟨rfl,L⟩;have M:=bt_ ah L;have r:=cU w L;obtain⟨H,I,J,X,Y⟩:=B _ r;obtain⟨bg,bi,bh,aG,bx,a4⟩:=cN (aw _ M) P;obtain⟨rfl,rfl⟩:am=some ⟨bg,bi,none⟩/\an=bh:=by simpa using aG
  obtain⟨bk,⟨bA,bl,aP⟩,bm,bn,bq,bo,aQ⟩:=a4;have aY:=lt_ aP;have ar:=lb_ aQ;have ax:=hid_ (a0 _ (getElem_mem P));have aZ:=hid_ ((f_ ax.out).2.1);obtain⟨aA,aC,rfl,_⟩:=aP;obtain⟨a1,a2,rfl,_⟩:=aQ;have bu:(0:Int)<=(l:Int):=Q0;have bv:(l:Int)<(g.length:Int):=Q0;have av:Hid (dl d f g[l] c=if cS f c g[l].body then co d f g[l] c else⟨0,0,0,0⟩):=rfl;clear aG;generalize g[l]=t at*;have aU:=λo=>(B _ (r.alloc r.size o)).1;have aV:=λo=>(B _ (r.alloc r.size o)).2.2.1;have aW:=λo=>(B _ (r.alloc r.size o)).2.2.2.1;have aX:=λo=>(B _ (r.alloc r.size o)).2.2.2.2;go_wp2_with fail;have aB:=λo=>M.alloc M.size o;refine mo_ (Ad _ _ _ _ d f t.body c (V _ (aB _)) (U _ (aB _)) (ar _ (bH _ _)) au hcv aZ.out) λN D=>?_;have W:=cU (bH _ _) D;have C:=cU r W;have ai:=bt_ G C;have ba:N.cell? u=some (.int .i64 t.head.pred):=by rw[D.cell (p:=⟨u,0,none⟩) Q1];simp[go_sem]
  have bb:N.cell? ⟨u,1,none⟩=some (.slice aA t.head.args aC):=by rw[D.cell (p:=⟨u,1,none⟩) Q1];simp[go_sem]
  have bc:N.cell? ⟨u,2,none⟩=some (.int .i64 t.src):=by rw[D.cell (p:=⟨u,2,none⟩) Q1];simp[go_sem]
  have bd:N.cell? ⟨u,3,none⟩=some (.int .i64 t.n):=by rw[D.cell (p:=⟨u,3,none⟩) Q1];simp[go_sem]
  have be:N.cell? ⟨u,4,none⟩=some (.slice a1 t.body a2):=by rw[D.cell (p:=⟨u,4,none⟩) Q1];simp[go_sem]
  clear H I J X Y bk bl bm bn bo aU aV aW aX D;obtain⟨H,I,J,X,Y⟩:=B _ C;cases O:cS f c t.body
  .have T:Hid (dl d f t c=⟨0,0,0,0⟩):=by show _=_;rw[av.out,O];rfl
   have S:=hid_ (E.out.trans O);obtain⟨r0,Z⟩:=m _ C 0 Q0;obtain⟨r1,aa⟩:=m _ C 1 Q0;obtain⟨r2,ab⟩:=m _ C 2 Q0;obtain⟨r3,ac⟩:=m _ C 3 Q0;go_wp2_with fail;refine bodyPost_ret (v:=.tuple #[.bool false,.agg #[.int .i64 0,.int .i64 0,.int .i64 0,.int .i64 0],.int .i64 0]) VN rfl ⟨by rw[s.out,S.out,F.out,T.out],?_⟩;exact(((ai.setCell (p:=⟨j,0,none⟩) q _).setCell (p:=⟨j,1,none⟩) q _).setCell (p:=⟨j,2,none⟩) q _).setCell (p:=⟨j,3,none⟩) q _
  have T:Hid (dl d f t c=co d f t c):=by show _=_;rw[av.out,O];rfl
  have S:=hid_ (E.out.trans O);go_wp2_with fail;refine mo_ (GQ _ _ _ d f t aA aC _ c (V _ ai) (U _ ai) (aY _ W) (ar _ W) ax au hcv) λbB a3=>?_;have K:=cU C a3;have a9:=bt_ G K;clear ba bb bc bd be H I J X Y;obtain⟨r0,Z⟩:=m _ K 0 Q0;obtain⟨r1,aa⟩:=m _ K 1 Q0;obtain⟨r2,ab⟩:=m _ K 2 Q0;obtain⟨r3,ac⟩:=m _ K 3 Q0;generalize co d f t c=hx at*;go_wp2_with fail;refine bodyPost_ret (v:=.tuple #[.bool true,.agg #[hx.pred,hx.a,hx.b,hx.val],.int .i64 0]) VN rfl ⟨by rw[s.out,S.out,F.out,T.out],?_⟩;exact(((a9.setCell (p:=⟨j,0,none⟩) q _).setCell (p:=⟨j,1,none⟩) q _).setCell (p:=⟨j,2,none⟩) q _).setCell (p:=⟨j,3,none⟩) q _
 have s:Hid (f9 d g f n c=ev d g f n):=by show _=_;rw[f9,if_pos hfe]
 have E:Hid (iF d g f n c=false):=by show _=_;rw[iF,if_pos (by rw[s.out];exact hfe)]
 have F:Hid (gL d g f n c=⟨0,0,0,0⟩):=by show _=_;rw[gL,if_pos (by rw[s.out];exact hfe)]
 obtain⟨r0,Z⟩:=m _ w 0 Q0;obtain⟨r1,aa⟩:=m _ w 1 Q0;obtain⟨r2,ab⟩:=m _ w 2 Q0;obtain⟨r3,ac⟩:=m _ w 3 Q0;go_wp2_with fail;refine bodyPost_ret (v:=.tuple #[.bool false,.agg #[.int .i64 0,.int .i64 0,.int .i64 0,.int .i64 0],.int .i64 (ev d g f n)]) VN rfl ⟨by rw[s.out,E.out,F.out],?_⟩;exact(((ah.setCell (p:=⟨j,0,none⟩) q _).setCell (p:=⟨j,1,none⟩) q _).setCell (p:=⟨j,2,none⟩) q _).setCell (p:=⟨j,3,none⟩) q _
theorem kY{b:World}{a o k d}(c:a≠k):(b.setCell ⟨a,o,none⟩ d).heap[k]? =b.heap[k]? :=by
 simp only[World.setCell];rw[Array.getElem?_modify,if_neg c]
def Aa(w:World)(k:Nat):Prop:=∃cur,w.heap[k]? =some (.cells cur 140 (0,0))
structure aA (base B:Nat) (w w':World):Prop where
 os:w'.os=w.os
 tape:w'.tape=w.tape
 output:w'.output=w.output
 size:w.heap.size<=w'.heap.size
 block:∀k,k<w.heap.size->k≠B->(k<base\/¬Aa w k)->w'.heap[k]? =w.heap[k]?
theorem aA.e(c b)(a:World):aA c b a a:=⟨rfl,rfl,rfl,le_refl _,λ_ _ _ _=>rfl⟩
theorem aA.b{g f}{c d:World}(a:Below c c d):aA g f c d:=⟨a.os,a.tape,a.output,a.size,λk h _ _=>a.block k h⟩
theorem aA.a{d c}{f g h:World}(b:aA d c f g)(k:aA d c g h):aA d c f h:=
 ⟨k.os.trans b.os,k.tape.trans b.tape,k.output.trans b.output,Nat.le_trans b.size k.size,λl j i hv=>by
  have e:=b.block l j i hv
  refine(k.block l (lt_of_lt_of_le j b.size) i ?_).trans e
  rcases hv with hv|hv
  .exact .inl hv
  refine .inr fun⟨m,n⟩=>hv ⟨m,?_⟩
  rw[<-e,n]⟩
theorem aA.f{c i}{b h:World}{g n p}(o:b.ownsRow c 140 4 g n p)(a:b.grownBy h g.ownBlock):aA c i b h:=by
 refine⟨a.os,a.tape,a.output,a.size,λd m _ hv=>a.block d m λe=>?_⟩;obtain⟨_,⟨rfl,_⟩|⟨k,q,j,rfl,r,l,_⟩⟩:=o
 .cases e
 obtain rfl:d=k:=by simpa[Value.ownBlock] using e
 rcases hv with hv|hv
 .omega
 exact hv ⟨j,l⟩
theorem aA.g{f a}{c:World}(o d):aA f a c (c.setCell ⟨a,o,none⟩ d):=by
 have b:=(Below.refl a c).setCell (p:=⟨a,o,none⟩) (le_refl _) d;refine⟨b.os,b.tape,b.output,b.size,λj i h _=>?_⟩;rw[kY (Ne.symm h)]
theorem aA.d{g f}{c h:World}(i:aA g f c h){b o}(l:b<c.heap.size)(j:b≠f)(k:b<g\/¬Aa c b):h.cell? ⟨b,o,none⟩=c.cell? ⟨b,o,none⟩:=World.cell?_of_block (a:=⟨b,o,none⟩) (i.block b l j k)
theorem aA.c{f d n}{b g:World}(a:aA f d b g)(l:n<=b.heap.size)(i:n<=d)(j:n<=f):Below n b g:=
 ⟨a.os,a.tape,a.output,a.size,λh k=>a.block h Q0 Q0 (.inl Q0)⟩
theorem Ha{f:World}{b c d n g}(k:f.ownsRow b 140 4 d n g)(o r)(s:c<b):(f.setCell ⟨c,o,none⟩ r).ownsRow b 140 4 d n g:=by
 obtain⟨l,a⟩:=k;refine⟨l,?_⟩;rcases a with a|⟨j,h,i,a,m,p,q⟩
 .exact .inl a
 exact .inr ⟨j,h,i,a,m,by rw[kY Q0];exact p,q⟩
structure az (w0:World) (base BP BF BN BB BO BL:Nat) (pv rv fv bv:Value) (n:Int) (W:World):Prop where
 below:Below w0 w0 W
 size:base<=W.heap.size
 p0:W.cell? BP=some pv
 p1:W.cell? ⟨BP,1,none⟩=some rv
 f:W.cell? BF=some fv
 n:W.cell? BN=some (.int .i64 n)
 b:W.cell? BB=some bv
 l:W.cell? BL=some (.func (.func 243) #[] #[.pointer (some ⟨BB,0,none⟩),.pointer (some ⟨BP,0,none⟩),.pointer (some ⟨BF,0,none⟩),.pointer (some ⟨BO,0,none⟩),.pointer (some ⟨BN,0,none⟩),.pointer (some ⟨BL,0,none⟩)])
 o:W.frozen? BO=false
structure aR (w0:World) (base BP BF BN BB BO BL:Nat):Prop where
 lp:BP<base
 lf:BF<base
 ln:BN<base
 lb:BB<base
 lo:BO<base
 ll:BL<base
 np:BP≠BO
 nf:BF≠BO
 nn:BN≠BO
 nb:BB≠BO
 nl:BL≠BO
 old:w0.heap.size<=BO
 base:w0.heap.size<=base
theorem az.c{v:World}{j r o q m h p z A x w n}{s k:World}(g:az v j r o q m h p z A x w n s)(a:aR v j r o q m h p)(t:aA j h s k)(C:k.frozen? h=false):az v j r o q m h p z A x w n k:=by
 have e:∀i u,i<j->i≠h->k.cell? ⟨i,u,none⟩=s.cell? ⟨i,u,none⟩:=λi u y B=>t.d (lt_of_lt_of_le y g.size) B (.inl y);exact⟨g.below.trans (t.c g.below.size a.old a.base),Nat.le_trans g.size t.size,by rw[e _ _ a.lp a.np,g.p0],by rw[e _ _ a.lp a.np,g.p1],by rw[e _ _ a.lf a.nf,g.f],by rw[e _ _ a.ln a.nn,g.n],by rw[e _ _ a.lb a.nb,g.b],by rw[e _ _ a.ll a.nl,g.l],C⟩
theorem az.a{p:World}{l j f h d i g u v s r n}{k q:World}(m:az p l j f h d i g u v s r n k)(w:aR p l j f h d i g)(t:Below k k q):az p l j f h d i g u v s r n q:=
 m.c w (aA.b t) (by rw[(fR t).2 _ _ (by have:=w.lo;have:=m.size;omega)];exact m.o)
def tz(base BO:Nat)(W:World)(l:List Stp)(W':World):Prop:=
 ∃vo',W'.cell? BO=some vo'/\W'.ownsRow base 140 4 vo' l (cY l)/\aA base BO W W'/\W'.frozen? BO=false
theorem Ar{i:World}{c e h a n j}(f:i.ownsRow c e h a n j):∃b g d,a=.slice b g d:=by
 obtain⟨_,⟨rfl,_⟩|⟨m,k,l,rfl,_⟩⟩:=f
 .exact⟨_,_,_,rfl⟩
 exact⟨_,_,_,rfl⟩
theorem Aq{g:World}{a e f b n h}(d:g.ownsRow a e f b n h){k}(m:k<a):some k≠b.ownBlock:=by
 obtain⟨_,⟨rfl,_⟩|⟨c,i,j,rfl,l,_⟩⟩:=d
 .intro e;cases e
 intro e;obtain rfl:k=c:=by simpa[Value.ownBlock] using e
 omega
theorem VO(h:p:=by rw[<-hW1];exact bH _ _):p:=h
theorem GZ(m:World)(p H E G D d F:Nat)(ao aM aa T:Value)(t:List Prd)(f:List Fct)(h:List Ltr)(n:Int)(ak:bR m ao t)(ag:bO m aa f)(ac:dC m T h)(ah:bW t f=0)(ab:∀l∈h,cf t l.atom=0)(C:aR m p H E G D d F)(s:Std)(k:List Stp)(c:World)(u:Value)(B:az m p H E G D d F ao aM aa T n c)(al:c.cell? d=some u)(ai:c.ownsRow p 140 4 u k (cY k))(aI:k.length<=500)(af:cT s.v=true):Calls prog 243 #[h.length,.agg #[s.v.x,s.v.y,s.v.z,.bool s.bx,.bool s.bq,.bool s.bz],.pointer (some ⟨D,0,none⟩),.pointer (some ⟨H,0,none⟩),.pointer (some ⟨E,0,none⟩),.pointer (some ⟨d,0,none⟩),.pointer (some ⟨G,0,none⟩),.pointer (some ⟨F,0,none⟩)] c λe ay=>e=.returned (.tuple #[])/\tz p d c (k++(ep f h [] s).map (fm n)) ay:=by
 have R:=hid_ λo (i:Below c c o)=>B.a C i;have au:=hid_ λo (i:Below m m o)=>an_ (bR.a i ak) (an_ (bO.a i ag) (dC.a i ac));obtain⟨aB,aC,rfl,aV,_⟩:=ac;obtain⟨aK,aL,rfl,aX,_⟩:=ak;obtain⟨aD,aE,rfl,aW,_⟩:=ag;have w:Hid (ep f h [] s=if cS f s.v h then[s.v] else[]):=by show _=_;rw[ep]
 have av:=hid_ λo (i:Below c c o)=>an_ (cg ai i) ((bF i (by have:=C.lo;have:=B.size;omega)).trans al);have aU:=B.size;have M:=C.lo;obtain⟨j,hW1⟩:=ex_ (c.alloc (.cells #[s.v.x,s.v.y,s.v.z,.bool s.bx,.bool s.bq,.bool s.bz] 301));have S:Below c c j:=VO;have aY:j.heap.size=c.heap.size+1:=UA;have ap:j.cell? c=some (.int .i64 s.v.x):=UB;have aq:j.cell? ⟨c,1,none⟩=some (.int .i64 s.v.y):=UB;have ar:j.cell? ⟨c,2,none⟩=some (.int .i64 s.v.z):=UB;have aw:=hid_ λo (i:Below j j o)=>an_ ((bF i Q0).trans ap) (an_ ((bF i Q0).trans aq) ((bF i Q0).trans ar));have P:=hid_ (R _ S);obtain⟨K,U,V,W,X,Y,Z,L,A⟩:=P.out
 have Q:Hid (Calls prog 237 #[.slice aK t aL,.slice aD f aE,.slice aB h aC,.agg #[s.v.x,s.v.y,s.v.z]] j λe aN=>e=.returned (.bool (cS f s.v h))/\Below j j aN):=by
  obtain⟨aF,aG,aH⟩:=au _ K;exact Ad j _ _ _ t f h s.v aF aG aH ah af ab
 clear B C al ai ah ab af L;go_enter func243,ntmps243;go_wp2_with fail;refine mo_ Q.out λJ ad=>?_;have r:=bt_ S ad;clear K U V W X Y Z A ap aq ar hW1 P Q;obtain⟨a0,a1,a2⟩:=aw _ ad;obtain⟨am,an⟩:=av _ r;obtain⟨K,U,V,W,X,Y,Z,L,A⟩:=R _ r;have q:=hid_ am;clear am L;cases ae:cS f s.v h
 .have I:Hid (k++(ep f h [] s).map (fm n)=k):=by show _=_;rw[w.out,ae,if_neg Q1,List.map_nil,append_nil]
  clear w;go_wp2_with fail;refine bodyPost_ret (results_none rfl _ _ _) rfl ?_;exact⟨rfl,by rw[I.out];exact⟨u,an,q.out,aA.b r,A⟩⟩
 have I:Hid (k++(ep f h [] s).map (fm n)=k++[fm n s.v]):=by show _=_;rw[w.out,ae,if_pos rfl];rfl
 clear w;go_wp2_with(at_builtin;refine nk _ rfl _ _ rfl p u k ⟨n,s.v.x,s.v.y,s.v.z⟩ (cg q (bH _ _)) rfl J.heap.size rfl 140 (heap_alloc_new J _) aI RD ?_;intro aZ O aj N;obtain⟨aQ,aT,aS,aJ⟩:=Ar aj;subst aJ;have aO:O.cell? d=some u:=(World.cell?_of_block (a:=⟨d,0,none⟩) (N.block d RD (Aq q M))).trans ((bF (bH _ _) Q0).trans an);have aP:O.frozen? d=false:=(World.frozen?_of_block (a:=⟨d,0,none⟩) (N.block d RD (Aq q M))).trans ((((fR (bH J _)).2 _ _ Q0)).trans A);have ax:aA p d c O:=(aA.b (r.alloc r.size _)).a (aA.f (cg q (bH _ _)) N));refine bodyPost_ret (results_none rfl _ _ _) rfl ?_;refine⟨rfl,?_⟩;rw[I.out];exact⟨_,fC aO,Ha aj 0 _ M,ax.a (aA.g 0 _),by rw[gI];exact aP⟩
theorem Hd{s:Std}{n d:Int}(a:cT s.v=true)(c:bQ d 0 4=true):cT (s.b n d).v=true:=by
 unfold cT at*;rw[Bool.and_eq_true,Bool.and_eq_true] at*;unfold Std.b;split
 .exact⟨c,a.2.1,a.2.2⟩
 split
 .exact⟨a.1,c,a.2.2⟩
 exact⟨a.1,a.2.1,c⟩
theorem wn{j}(f:bQ j.a 0 4=true/\bQ j.b 0 4=true):∀(h:List Tm) (s g:Std) (i:Nat),ez j s h i=some g->cT s.v=true->cT g.v=true
 |[],s,g,i,c,d=>by cases c;exact d
 |t::h,s,g,i,c,d=>by
  rw[ez] at c
  split at c
  .refine wn f h _ _ _ c (Hd d ?_)
   unfold jH
   split
   .exact f.1
   exact f.2
  split at c
  .exact wn f h _ _ _ c d
  cases c
theorem Ht{h s c f d}(b:cw h d=true)(a:gd s f d=some c)(g:cT s.v=true):cT c.v=true:=by
 unfold gd at a;split at a
 .exact wn ⟨(tD b).1,(tD b).2.1⟩ _ _ _ _ a g
 cases a
def nh(f:List Fct)(body ls:List Ltr)(a:Atm)(s:Std)(x:Fct):List ae:=match gd s a x with
 |some s'=>ep f body ls s'
 |none=>[]
def fl(f:List Fct)(body ls:List Ltr)(a:Atm)(s:Std)(j:Nat):List ae:=(f.take j).flatMap (nh f body ls a s)
theorem G2{f a b l s}(h:l.neg=false):ep f a (l::b) s=fl f a b l.atom s f.length:=by
 rw[ep,if_neg TN,fl,take_length];rfl
theorem G0{f a b l s}(c:l.neg=true):ep f a (l::b) s=ep f a b s:=by rw[ep,if_pos c]
theorem Aj{f c d b s a}(g:a<f.length):fl f c d b s (a+1)=fl f c d b s a++nh f c d b s f[a]:=by
 unfold fl;rw[List.take_add_one,getElem?_eq_getElem g,List.flatMap_append];simp
theorem GX{f c d b s a}(g:a<f.length):(fl f c d b s a).length+(nh f c d b s f[a]).length<=(fl f c d b s f).length:=by
 have e:f=f.take (a+1)++f.drop (a+1):=(List.take_append_drop _ _).symm
 have:fl f c d b s f.length=fl f c d b s (a+1)++(f.drop (a+1)).flatMap (nh f c d b s):=by
  unfold fl;rw[take_length,<-List.flatMap_append,List.take_append_drop]
 rw[this,length_append,Aj g,length_append];omega
def wk(BP BF BN BB BO BL:Nat)(i:Int)(s:Std):Array Value:=#[.int .i64 i,.agg #[s.v.x,s.v.y,s.v.z,.bool s.bx,.bool s.bq,.bool s.bz],.pointer (some ⟨BB,0,none⟩),.pointer (some ⟨BP,0,none⟩),.pointer (some ⟨BF,0,none⟩),.pointer (some ⟨BO,0,none⟩),.pointer (some ⟨BN,0,none⟩),.pointer (some ⟨BL,0,none⟩)]
def rd(w0:World)(base BP BF BN BB BO BL:Nat)(pv rv fv bv:Value)(n:Int)(f:List Fct)(body:List Ltr)(i:Nat):Prop:=
 ∀(s:Std) (pre:List Stp) (W:World) (vo:Value),az w0 base BP BF BN BB BO BL pv rv fv bv n W->W.cell? BO=some vo->W.ownsRow base 140 4 vo pre (cY pre)->pre.length+(ep f body (body.drop i) s).length<=500->cT s.v=true-> Calls prog 243 (wk BP BF BN BB BO BL (i:Int) s) W λe W'=>e=.returned (.tuple #[])/\tz base BO W (pre++(ep f body (body.drop i) s).map (fm n)) W'
theorem VP(h:p:=by rw[<-hW2];exact bH _ _):p:=h
theorem VQ(h:p:=by rw[<-hW6];exact Below.alloc hk (Below.size hk) _):p:=h
theorem VR(h:p:=by rw[<-hW6];exact KS _ hk _ _ _ _ _ _):p:=h
theorem Yh(h:p:=by first|with_reducible exact Below.refl _ _|with_reducible exact Below.drew (Below.refl _ _)|with_reducible exact hk|with_reducible exact KA.out|with_reducible exact Below.drew KA.out|with_reducible exact Below.alloc hk (Below.size hk) _|with_reducible exact KS _ hk _ _ _ _ _ _):p:=h
theorem Zi(h:p:=by
 rw[hW6]
 have HB6:=hid_ (HB2.out.a SP k6)
 have cl:=HB6.out.l
 clear hW6
 go_wp2_with fail
 refine(HI t (pre++(fl f body ls at_ s j).map (fm n)) W6 v HB6 (HV6 _ k6).2 (HV6 _ k6).1 HLT6 HCT.out).mono ?_
 rintro e W7 ⟨rfl,vo2,z1,z2,z3,z4⟩
 go_wp2_with fail
 exact⟨⟨j+1,vo2,Q0,Rv,z1,by rw[HN.out];exact z2,HB6.out.c SP z3 z4,(HT2.out.a (aA.b k6)).a z3⟩,S6⟩):p:=h
theorem aai(h:p:=by
 rw[hW6]
 go_wp2_with fail
 exact⟨⟨j+1,v,Q0,Rv,(HV6 _ k6).2,by rw[HN.out];exact(HV6 _ k6).1,HB2.out.a SP k6,HT2.out.a (aA.b k6)⟩,S6⟩):p:=h
theorem G6(D:World)(E ae ab ad N B ac aJ aK aU aQ be f body n q)(aX:bO D aU f)(aG:dC D aQ body)(ba:bW be f=0)(bS:∀l∈body,cf be l.atom=0)(au:aR D E ae ab ad N B ac)(aY:q<body.length)(ih:rd D E ae ab ad N B ac aJ aK aU aQ n f body (q+1)):rd D E ae ab ad N B ac aJ aK aU aQ n f body q:=by
 intro s pre m bj aE bd am aZ a8;have a2:=hid_ ih;clear ih;unfold wk;have bv:=hid_ λg (h:Below m m g)=>aE.a au h;have bB:=hid_ λg (h:Below D D g)=>an_ (bO.a h aX) (dC.a h aG);have ax:=hid_ λg (h:Below m m g)=>an_ (cg am h) ((bF h (by have:=au.lo;have:=aE.size;omega)).trans bd);have SP:=hid_ au;have cd:=aE.size;have cc:=au.lo;have aw:=hid_ (List.drop_eq_getElem_cons aY);have aM:=hid_ (bS _ (getElem_mem aY));have ck:(q:Int)<(body.length:Int):=Q0;have cn:((q:Int)==(body.length:Int))=false:=RD;have co:¬(q:Int)=(body.length:Int):=Q0;obtain⟨bJ,aq,rfl,ch,_⟩:=id aG;obtain⟨aS,aT,rfl,cj,_⟩:=id aX;obtain⟨R,hW1⟩:=ex_ (m.alloc (.cells #[s.v.x,s.v.y,s.v.z,.bool s.bx,.bool s.bq,.bool s.bz] 301));have S:Below m m R:=VO;have cp:R.heap.size=m.heap.size+1:=UA;have bC:Hid (R.heap[m.heap.size]? =some (.cells #[s.v.x,s.v.y,s.v.z,.bool s.bx,.bool s.bq,.bool s.bz] 301 (0,0))):=by rw[<-hW1];exact heap_alloc_new m _
 have aO:Hid (∀g,aA E B R g->g.cell? m=some (.int .i64 s.v.x)/\g.cell? ⟨m,1,none⟩=some (.int .i64 s.v.y)/\g.cell? ⟨m,2,none⟩=some (.int .i64 s.v.z)/\g.cell? ⟨m,3,none⟩=some (.bool s.bx)/\g.cell? ⟨m,4,none⟩=some (.bool s.bq)/\g.cell? ⟨m,5,none⟩=some (.bool s.bz)):=λg h=>by
  have e:∀A,g.cell? ⟨m,A,none⟩=R.cell? ⟨m,A,none⟩:=λA=>h.d Q0 Q0 (.inr fun⟨ca,a9⟩=>by rw[bC.out] at a9;simp at a9);rw[e,e,e,e,e,e,<-hW1];simp[go_sem]
 have av:=hid_ (bv _ S);obtain⟨F,T,af,ag,ah,ai,U,aj,ak⟩:=av.out;obtain⟨J,K,bK,a7,aH,C,G,b9,H,I⟩:=cN aG aY;obtain⟨rfl,rfl⟩:bJ=some ⟨J,K,none⟩/\aq=bK:=by simpa using a7
 obtain⟨O,P,rfl,_⟩:=id I;have aP:=hid_ λg (h:Below D D g)=>an_ ((bF h aH).trans C) (an_ ((bF h aH).trans G) (an_ ((bF h aH).trans H) (cr.a h I)));clear C G H I;obtain⟨C,G,H,I⟩:=aP _ F;clear aE bd am au aG aX a7;have cb:∀a5 bk,(callFunc 243 a5).run prog bk=.ok (.enter 243 a5) bk:=enters_of func243 SI rfl;obtain⟨V,W,X,Y,Z,aa⟩:=aO _ (aA.e _ _ _)
 have HI:Hid (∀(r:Std) (an:List Stp) (g:World) (aL:Value),az D E ae ab ad N B ac aJ aK (.slice aS f aT) (.slice (some ⟨J,K,none⟩) body aq) n g->g.cell? B=some aL->g.ownsRow E 140 4 aL an (cY an)->an.length+(ep f body (body.drop (q+1)) r).length<=500->cT r.v=true->Calls prog 243 #[.int .i64 ((q:Int)+1),.agg #[r.v.x,r.v.y,r.v.z,.bool r.bx,.bool r.bq,.bool r.bz],.pointer (some ⟨N,0,none⟩),.pointer (some ⟨ae,0,none⟩),.pointer (some ⟨ab,0,none⟩),.pointer (some ⟨B,0,none⟩),.pointer (some ⟨ad,0,none⟩),.pointer (some ⟨ac,0,none⟩)] g λe bI=>e=.returned (.tuple #[])/\tz E B g (an++(ep f body (body.drop (q+1)) r).map (fm n)) bI):=λr an g aL Q al aV bQ bR=>by
  have:=a2 r an g aL Q al aV bQ bR;unfold wk at this;rwa[show((q+1:Nat):Int)=(q:Int)+1 by omega] at this
 clear a2;cases ar:body[q].neg
 .rw[ar] at C;have ao:Hid (ep f body (body.drop q) s=fl f body (body.drop (q+1)) body[q].atom s f):=by show _=_;rw[aw.out,G2 ar]
  clear aw ar;have bA:Hid (pre.length+(fl f body (body.drop (q+1)) body[q].atom s f).length<=500):=by have:=aZ;rwa[ao.out] at this
  have aC:=hid_ λg p (h:cr g (.slice O body[q].atom.args.length P) body[q].atom.args)=>Hu g s body[q].atom O P p h (we aM (eR ba).2.1).2 (gP aM.out).2;clear aZ I;generalize bT:body[q].atom=at_ at*;generalize bV:body.drop (q+1)=ls at*;clear bT bV aM;go_enter func243,ntmps243;go_wp2_with fail;go_loopw [44] (λa1 wr=>∃(j:Nat) (v:Value),j<=f.length/\a1=.int .i64 j/\wr.cell? B=some v/\wr.ownsRow E 140 4 v (pre++(fl f body ls at_ s j).map (fm n)).length (cY (pre++(fl f body ls at_ s j).map (fm n)))/\az D E ae ab ad N B ac aJ aK (.slice aS f aT) (.slice (some ⟨J,K,none⟩) body aq) n wr/\aA E B R wr) (λa1 _=>f.length-(intOf a1).toNat)
  case atStart=>
   exact⟨0,bj,Nat.zero_le _,rfl,(ax _ S).2,by have bP:=(ax _ S).1;simpa[fl] using bP,av.out,aA.e _ _ _⟩
  obtain⟨j,v,cm,rfl,a0,am,aW,aF⟩:=hrel;by_cases aI:j<f.length
  .have bE:=hid_ am;have bG:=hid_ a0;have bD:=hid_ aF;have bu:=hid_ aW;clear F T af ag ah ai U aj ak V W X Y Z aa C G H a0 am hW1 av;obtain⟨F,T,af,ag,ah,ai,U,aj,ak⟩:=aW;obtain⟨V,W,X,Y,Z,aa⟩:=aO _ aF;obtain⟨C,G,H,I⟩:=aP _ F;obtain⟨bL,bN,bM,bb,ci,b4,b5,b6,b7⟩:=cN (bB _ F).1 aI;obtain⟨rfl,rfl⟩:aS=some ⟨bL,bN,none⟩/\aT=bM:=by simpa using bb
   have ay:Hid (fl f body ls at_ s (j+1)=fl f body ls at_ s j++nh f body ls at_ s f[j]):=Aj aI;have aN:Hid ((fl f body ls at_ s j).length+(nh f body ls at_ s f[j]).length<=(fl f body ls at_ s f).length):=GX aI;have bw:=hid_ (kA ba _ (getElem_mem aI));have ce:m.heap.size<wr.heap.size:=by have:=aF.size;omega
   clear bb;generalize f[j]=p at*;go_wp2_with fail;obtain⟨i,hW2⟩:=ex_ (wr.alloc (.cells #[p.pred,p.a,p.b,p.val] 93));rw[hW2];have aD:Below wr wr i:=VP;have b3:i.heap.size=wr.heap.size+1:=by rw[<-hW2];simp
   have bf:i.cell? wr=some (.int .i64 p.pred):=Vz;have bg:i.cell? ⟨wr,1,none⟩=some (.int .i64 p.a):=Vz;have bh:i.cell? ⟨wr,2,none⟩=some (.int .i64 p.b):=Vz;have bi:i.cell? ⟨wr,3,none⟩=some (.int .i64 p.val):=Vz;have HB2:=hid_ (bu.out.a SP aD);have HT2:=hid_ (bD.out.a (aA.b aD));clear hW2 F T af ag ah ai U aj ak V W X Y Z aa C G H I b4 b5 b6 b7;obtain⟨F,T,af,ag,ah,ai,U,aj,ak⟩:=HB2.out;obtain⟨V,W,X,Y,Z,aa⟩:=aO _ HT2.out;obtain⟨C,G,H,I⟩:=aP _ F;have aB:=lt_ I;have bU:=lt_of_lt_of_le SP.out.lb T;have a6:=lt_of_lt_of_le aH F.size;have a3:=hid_ λ(k:World)(h:Below i i k)=>an_ ((bF h Q0).trans V) (an_ ((bF h Q0).trans W) (an_ ((bF h Q0).trans X) (an_ ((bF h Q0).trans Y) (an_ ((bF h Q0).trans Z) (an_ ((bF h Q0).trans aa) (an_ ((bF h bU).trans U) (an_ ((bF h a6).trans G) (an_ ((bF h a6).trans H) (an_ ((bF h Q0).trans bf) (an_ ((bF h Q0).trans bg) (an_ ((bF h Q0).trans bh) ((bF h Q0).trans bi))))))))))));clear T af ag ah ai U aj ak C G H I V W X Y Z aa bf bg bh bi;have KA:Hid (Below i i (i.alloc (.cells #[.int .i64 0,.int .i64 0,.int .i64 0,.bool false,.bool false,.bool false] 301))):=bH _ _
   have KS:Hid (∀g,Below i i g->∀bl bm bn bo bp br,Below i i ((((((g.setCell ⟨wr.heap.size+1,0,none⟩ bl).setCell ⟨wr.heap.size+1,1,none⟩ bm).setCell ⟨wr.heap.size+1,2,none⟩ bn).setCell ⟨wr.heap.size+1,3,none⟩ bo).setCell ⟨wr.heap.size+1,4,none⟩ bp).setCell ⟨wr.heap.size+1,5,none⟩ br)):=λg h bl bm bn bo bp br=>by
    have e:∀A,i.heap.size<=(⟨wr.heap.size+1,A,none⟩:Addr).block:=λA=>by show i.heap.size<=wr.heap.size+1;omega
    exact(((((h.setCell (e _) _).setCell (e _) _).setCell (e _) _).setCell (e _) _).setCell (e _) _).setCell (e _) _
   have a4:Hid (∀g,Below (i.alloc (.cells #[.int .i64 0,.int .i64 0,.int .i64 0,.bool false,.bool false,.bool false] 301)).drew.heap.size (i.alloc (.cells #[.int .i64 0,.int .i64 0,.int .i64 0,.bool false,.bool false,.bool false] 301)).drew g->g.cell? ⟨wr.heap.size+1,0,none⟩=some (.int .i64 0)/\g.cell? ⟨wr.heap.size+1,1,none⟩=some (.int .i64 0)/\g.cell? ⟨wr.heap.size+1,2,none⟩=some (.int .i64 0)/\g.cell? ⟨wr.heap.size+1,3,none⟩=some (.bool false)/\g.cell? ⟨wr.heap.size+1,4,none⟩=some (.bool false)/\g.cell? ⟨wr.heap.size+1,5,none⟩=some (.bool false)/\∀A,g.frozen? ⟨wr.heap.size+1,A,none⟩=false):=λg h=>by
    rw[<-b3];have bc:i.heap.size<(i.alloc (.cells #[.int .i64 0,.int .i64 0,.int .i64 0,.bool false,.bool false,.bool false] 301)).drew.heap.size:=by simp[World.drew]
    have e:=λA=>bF h (o:=A) bc;rw[e,e,e,e,e,e];refine⟨?_,?_,?_,?_,?_,?_,λA=>?_⟩;all_goals first|rw[(fR h).2 _ _ bc]|skip
    all_goals simp[go_sem]
   have HV6:=hid_ λg (h:Below i i g)=>an_ (cg (cg bE aD) h) ((bF h Q0).trans ((bF aD Q0).trans bG.out));cases M:gd s at_ p
   .have ap:Hid (∀g,cr g (.slice O at_.args P) at_.args->Calls prog 244 #[.agg #[s.v.x,s.v.y,s.v.z,.bool s.bx,.bool s.bq,.bool s.bz],.agg #[at_.pred,.slice O at_.args P],.agg #[p.pred,p.a,p.b,p.val]] g λe k=>(∃r:Std,e=.returned (.tuple #[.agg #[r.v.x,r.v.y,r.v.z,.bool r.bx,.bool r.bq,.bool r.bz],.bool false]))/\Below g g k):=λg h=>(aC g p h).mono λe k ⟨⟨r,Q,_⟩,al⟩=>⟨⟨r,by rw[Q,M];rfl⟩,al⟩;have HN:Hid (pre++(fl f body ls at_ s (j+1)).map (fm n)=pre++(fl f body ls at_ s j).map (fm n)):=by show _=_;rw[ay.out,nh,M];simp
    clear aC ay aN M;go_region_held3 (λk=>k.cell? m=some (.int .i64 s.v.x)/\k.cell? ⟨m,1,none⟩=some (.int .i64 s.v.y)/\k.cell? ⟨m,2,none⟩=some (.int .i64 s.v.z)/\k.cell? ⟨m,3,none⟩=some (.bool s.bx)/\k.cell? ⟨m,4,none⟩=some (.bool s.bq)/\k.cell? ⟨m,5,none⟩=some (.bool s.bz)/\k.cell? N=some (.slice (some ⟨J,K,none⟩) body aq)/\k.cell? ⟨J,K+q*3+1,none⟩=some (.int .i64 at_.pred)/\k.cell? ⟨J,K+q*3+2,none⟩=some (.slice O at_.args P)/\k.cell? wr=some (.int .i64 p.pred)/\k.cell? ⟨wr,1,none⟩=some (.int .i64 p.a)/\k.cell? ⟨wr,2,none⟩=some (.int .i64 p.b)/\k.cell? ⟨wr,3,none⟩=some (.int .i64 p.val)) (first|(refine a3 _ ?_;exact Yh)) (first|(go_at_call 244;refine(ap _ (aB _ KA.out.drew)).mono ?_;rintro e u ⟨⟨w,rfl⟩,L⟩;have hk:Below i i u:=KA.out.trans ((((Below.refl _ _).drew).trans L).mono KA.out.size);obtain⟨bs,z1,z2,z3,z4,bt,b8⟩:=a4 _ L)|(go_at_call 244;refine(ap _ (aB _ (Below.refl _ _).drew)).mono ?_;rintro e u ⟨⟨w,rfl⟩,L⟩;have hk:Below i i u:=((Below.refl _ _).drew).trans L))
    .obtain⟨W6,hW6⟩:=ex_ (u.alloc (.cells #[w.v.x,w.v.y,w.v.z,.bool w.bx,.bool w.bq,.bool w.bz] 301));have k6:Below i i W6:=VQ;exact aai
    obtain⟨W6,hW6⟩:=ex_ (((((((u.setCell ⟨wr.heap.size+1,0,none⟩ w.v.x).setCell ⟨wr.heap.size+1,1,none⟩ w.v.y).setCell ⟨wr.heap.size+1,2,none⟩ w.v.z).setCell ⟨wr.heap.size+1,3,none⟩ (.bool w.bx)).setCell ⟨wr.heap.size+1,4,none⟩ (.bool w.bq)).setCell ⟨wr.heap.size+1,5,none⟩ (.bool w.bz)));have k6:Below i i W6:=VR;exact aai
   rename_i t;have ap:Hid (∀g,cr g (.slice O at_.args P) at_.args->Calls prog 244 #[.agg #[s.v.x,s.v.y,s.v.z,.bool s.bx,.bool s.bq,.bool s.bz],.agg #[at_.pred,.slice O at_.args P],.agg #[p.pred,p.a,p.b,p.val]] g λe k=>e=.returned (.tuple #[.agg #[t.v.x,t.v.y,t.v.z,.bool t.bx,.bool t.bq,.bool t.bz],.bool true])/\Below g g k):=λg h=>(aC g p h).mono λe k ⟨⟨r,Q,aV⟩,al⟩=>⟨by rw[Q,M,aV t M];rfl,al⟩;have HN:Hid (pre++(fl f body ls at_ s (j+1)).map (fm n)=(pre++(fl f body ls at_ s j).map (fm n))++(ep f body ls t).map (fm n)):=by show _=_;rw[ay.out,nh,M,List.map_append,List.append_assoc]
   have HLT6:Hid ((pre++(fl f body ls at_ s j).map (fm n)).length+(ep f body ls t).length<=500):=by
    have Q:=aN.out;have al:=bA.out;rw[nh,M] at Q;show _<=_;rw[length_append,List.length_map];dsimp only at Q;omega
   have HCT:=hid_ (Ht bw M a8);clear aC ay aN M;go_region_held3 (λk=>k.cell? m=some (.int .i64 s.v.x)/\k.cell? ⟨m,1,none⟩=some (.int .i64 s.v.y)/\k.cell? ⟨m,2,none⟩=some (.int .i64 s.v.z)/\k.cell? ⟨m,3,none⟩=some (.bool s.bx)/\k.cell? ⟨m,4,none⟩=some (.bool s.bq)/\k.cell? ⟨m,5,none⟩=some (.bool s.bz)/\k.cell? N=some (.slice (some ⟨J,K,none⟩) body aq)/\k.cell? ⟨J,K+q*3+1,none⟩=some (.int .i64 at_.pred)/\k.cell? ⟨J,K+q*3+2,none⟩=some (.slice O at_.args P)/\k.cell? wr=some (.int .i64 p.pred)/\k.cell? ⟨wr,1,none⟩=some (.int .i64 p.a)/\k.cell? ⟨wr,2,none⟩=some (.int .i64 p.b)/\k.cell? ⟨wr,3,none⟩=some (.int .i64 p.val)) (first|(refine a3 _ ?_;exact Yh)) (first|(go_at_call 244;refine mo_ (ap _ (aB _ KA.out.drew)) λu L=>?_;have hk:Below i i u:=KA.out.trans ((((Below.refl _ _).drew).trans L).mono KA.out.size);obtain⟨bs,z1,z2,z3,z4,bt,b8⟩:=a4 _ L)|(go_at_call 244;refine mo_ (ap _ (aB _ (Below.refl _ _).drew)) λu L=>?_;have hk:Below i i u:=((Below.refl _ _).drew).trans L))
   .obtain⟨W6,hW6⟩:=ex_ (u.alloc (.cells #[t.v.x,t.v.y,t.v.z,.bool t.bx,.bool t.bq,.bool t.bz] 301));have k6:Below i i W6:=VQ;obtain⟨bX,bY,bZ,b0,b1,b2⟩:W6.cell? u=some (.int .i64 t.v.x)/\W6.cell? ⟨u,1,none⟩=some (.int .i64 t.v.y)/\W6.cell? ⟨u,2,none⟩=some (.int .i64 t.v.z)/\W6.cell? ⟨u,3,none⟩=some (.bool t.bx)/\W6.cell? ⟨u,4,none⟩=some (.bool t.bq)/\W6.cell? ⟨u,5,none⟩=some (.bool t.bz):=by rw[<-hW6];simp[go_sem]
    exact Zi
   obtain⟨W6,hW6⟩:=ex_ (((((((u.setCell ⟨wr.heap.size+1,0,none⟩ t.v.x).setCell ⟨wr.heap.size+1,1,none⟩ t.v.y).setCell ⟨wr.heap.size+1,2,none⟩ t.v.z).setCell ⟨wr.heap.size+1,3,none⟩ (.bool t.bx)).setCell ⟨wr.heap.size+1,4,none⟩ (.bool t.bq)).setCell ⟨wr.heap.size+1,5,none⟩ (.bool t.bz)));have k6:Below i i W6:=VR;obtain⟨bX,bY,bZ,b0,b1,b2⟩:W6.cell? ⟨wr.heap.size+1,0,none⟩=some (.int .i64 t.v.x)/\W6.cell? ⟨wr.heap.size+1,1,none⟩=some (.int .i64 t.v.y)/\W6.cell? ⟨wr.heap.size+1,2,none⟩=some (.int .i64 t.v.z)/\W6.cell? ⟨wr.heap.size+1,3,none⟩=some (.bool t.bx)/\W6.cell? ⟨wr.heap.size+1,4,none⟩=some (.bool t.bq)/\W6.cell? ⟨wr.heap.size+1,5,none⟩=some (.bool t.bz):=by rw[<-hW6];simp[go_sem,bs,z1,z2,z3,z4,bt]
   exact Zi
  obtain rfl:j=f.length:=Q0;clear F T af ag ah ai U aj ak V W X Y Z aa C G H;go_wp2_with fail;go_end0;refine⟨rfl,?_⟩;rw[ao.out];exact⟨v,a0,am,(aA.b S).a aF,aW.o⟩
 rw[ar] at C;have ao:Hid (ep f body (body.drop q) s=ep f body (body.drop (q+1)) s):=by show _=_;rw[aw.out,G0 ar]
 clear aw;go_enter func243,ntmps243;go_wp2_with fail;refine(HI s pre R bj av (ax _ S).2 (ax _ S).1 (by have:=aZ;rwa[ao.out] at this) a8).mono ?_;rintro e i ⟨rfl,vo2,z1,z2,z3,z4⟩;go_wp2_with fail;refine bodyPost_ret (results_none rfl _ _ _) rfl ⟨rfl,?_⟩;rw[ao.out];exact⟨vo2,z1,z2,(aA.b S).a z3,z4⟩
theorem Al(b:World)(p o i k h m j s t r q g f a n)(z:bR b s g)(w:bO b r f)(v:dC b q a)(x:bW g f=0)(u:∀l∈a,cf g l.atom=0)(y:aR b p o i k h m j):∀d c,c+d=a.length->rd b p o i k h m j s t r q n f a c
 |0,c,B=>by
  obtain rfl:c=a.length:=Q0
  intro I H A J C G F E D
  rw[List.drop_length] at E⊢
  exact GZ b p o i k h m j s t r q g f a n z w v x u y I H A J C G F Q0 D
 |d+1,c,B=>G6 b p o i k h m j s t r q g f a n c w v x u y Q0 (Al b p o i k h m j s t r q g f a n z w v x u y d (c+1) Q0)
theorem VS(h:p:=by rw[<-hW2,<-e3];simp[go_sem]):p:=h
theorem Hn(a:World)(u ac t i b f n)(Q:bR a u i)(R:ck a ac b)(O:bO a t f)(S:∀j∈b,cx i j=0)(E:bW i f=0)(P:n<b.length):Calls prog 209 #[.agg #[u,ac],t,n] a λe af=>∃y,e=.returned y/\af.ownsRow (a.heap.size+1+1+1+1+1+1) 140 4 y ((ep f b[n].body b[n].body jp).map (fm n)).length (cY ((ep f b[n].body b[n].body jp).map (fm n)))/\Below a a af:=by
 obtain⟨v,x,w,rfl,aj,ai⟩:=cN R P;obtain⟨am,⟨ax,an,ao⟩,ap,aq,M,ar,ae⟩:=ai;have z:=hid_ (S _ (getElem_mem P));have I:Hid (∀s r m p l q o,aR a s r m p l q o->rd a s r m p l q o u (.slice (some ⟨v,x,none⟩) b w) t M (n:Int) f b[n].body 0):=λs r m p l q o al=>Al a s r m p l q o u _ t M i f b[n].body n Q O ae E (f_ z.out).2.1 al b[n].body.length 0 Q0;have J:=hid_ (Ak z E);obtain⟨F,G,rfl,_⟩:=Q;obtain⟨C,D,rfl,_⟩:=O;obtain⟨A,B,rfl,_⟩:=ae;have aA:(0:Int)<=(n:Int):=Q0;have aB:(n:Int)<(b.length:Int):=Q0;clear S z R E am an ao ap aq;generalize b[n]=j at*;have ay:∀L a,(callFunc 243 L).run prog a=.ok (.enter 243 L) a:=enters_of func243 SI rfl;obtain⟨g,hW1⟩:=ex_ (((a.alloc (.cells #[.slice F i G,.slice (some ⟨v,x,none⟩) b w] 30)).alloc (.cells #[.slice C f D] 65)).alloc (.cells #[n] 3));have k:Below a a g:=UG;have ad:g.heap.size=a.heap.size+1+1+1:=UA;have Y:g.cell? a=some (.slice F i G):=UB;have Z:g.cell? ⟨a,1,none⟩=some (.slice (some ⟨v,x,none⟩) b w):=UB;have aa:g.cell? ⟨a.heap.size+1,0,none⟩=some (.slice C f D):=UB;have ab:g.cell? ⟨a.heap.size+1+1,0,none⟩=some (.int .i64 (n:Int)):=UB;have ak:=(bF k aj).trans ar;go_enter func209,ntmps209;go_wp2_with fail;obtain⟨d,hW2⟩:=ex_ (((g.alloc (.cells #[.slice A j.body B] 56)).alloc (.cells #[.slice none 0 0] 86)).alloc (.cells #[(.func (.func 243) #[] #[.pointer (some ⟨a.heap.size+1+1+1,0,none⟩),.pointer (some ⟨a,0,none⟩),.pointer (some ⟨a.heap.size+1,0,none⟩),.pointer (some ⟨a.heap.size+1+1+1+1,0,none⟩),.pointer (some ⟨a.heap.size+1+1,0,none⟩),.pointer (some ⟨a.heap.size+1+1+1+1+1,0,none⟩)])] 299));have h:Below g g d:=by rw[<-hW2];exact(((Below.refl _ _).alloc (le_refl _) _).alloc Q1 _).alloc RD _
 have aC:d.heap.size=a.heap.size+1+1+1+1+1+1:=by rw[<-hW2];simp[ad]
 have K:aR a (a.heap.size+1+1+1+1+1+1) (a.heap.size) (a.heap.size+1) (a.heap.size+1+1) (a.heap.size+1+1+1) (a.heap.size+1+1+1+1) (a.heap.size+1+1+1+1+1):=⟨Q0,Q0,Q0,Q0,Q0,Q0,Q0,Q0,Q0,Q0,Q0,Q0,Q0⟩;have e3:=ad;have U:d.cell? ⟨a.heap.size+1+1+1,0,none⟩=some (.slice A j.body B):=VS;have V:d.cell? ⟨a.heap.size+1+1+1+1,0,none⟩=some (.slice none 0 0):=VS;have W:d.frozen? ⟨a.heap.size+1+1+1+1,0,none⟩=false:=VS;have X:d.cell? ⟨a.heap.size+1+1+1+1+1,0,none⟩=some (.func (.func 243) #[] #[.pointer (some ⟨a.heap.size+1+1+1,0,none⟩),.pointer (some ⟨a,0,none⟩),.pointer (some ⟨a.heap.size+1,0,none⟩),.pointer (some ⟨a.heap.size+1+1+1+1,0,none⟩),.pointer (some ⟨a.heap.size+1+1,0,none⟩),.pointer (some ⟨a.heap.size+1+1+1+1+1,0,none⟩)]):=VS;have H:az a (a.heap.size+1+1+1+1+1+1) (a.heap.size) (a.heap.size+1) (a.heap.size+1+1) (a.heap.size+1+1+1) (a.heap.size+1+1+1+1) (a.heap.size+1+1+1+1+1) (.slice F i G) (.slice (some ⟨v,x,none⟩) b w) (.slice C f D) (.slice A j.body B) (n:Int) d:=⟨k.trans (h.mono k.size),Q0,(bF h Q0).trans Y,(bF h Q0).trans Z,(bF h Q0).trans aa,(bF h Q0).trans ab,U,X,W⟩
 have ag:Hid (Calls prog 243 #[.int .i64 0,.agg #[.int .i64 0,.int .i64 0,.int .i64 0,.bool false,.bool false,.bool false],.pointer (some ⟨a.heap.size+1+1+1,0,none⟩),.pointer (some ⟨a,0,none⟩),.pointer (some ⟨a.heap.size+1,0,none⟩),.pointer (some ⟨a.heap.size+1+1+1+1,0,none⟩),.pointer (some ⟨a.heap.size+1+1,0,none⟩),.pointer (some ⟨a.heap.size+1+1+1+1+1,0,none⟩)] d λe ah=>e=.returned (.tuple #[])/\tz (a.heap.size+1+1+1+1+1+1) (a.heap.size+1+1+1+1) d ((ep f j.body j.body jp).map (fm n)) ah):=by
  have N:=I _ _ _ _ _ _ _ K jp [] d (.slice none 0 0) H V (World.ownsRow_nil _ _ _ _) (by have:=J.out;rw[List.drop_zero];simp;omega) rfl;rw[List.drop_zero,List.nil_append] at N;exact N
 rw[hW2];have T:=bt_ k h;clear hW2 hW1 Y Z aa ab ak U V W X H K I J k h e3;refine ag.out.mono ?_;rintro e aw ⟨rfl,y,aD,au,av,aE⟩;go_wp2_with fail;go_ret;exact⟨y,rfl,au,T.trans (av.c T.size Q0 Q0)⟩
theorem Yc(h:p:=by simp[results,results79,go_sem]):p:=h
theorem FK(c:World)(r U N C ps rs f a)(G:bR c r ps)(al:ck c U rs)(P:bO c N f)(Q:cr c C a.args)(aU:dU ps):Calls prog 79 #[.agg #[r,U],N,.agg #[a.pred,C]] c λe H=>∃u,e=.returned (.tuple #[u,.int .i64 (e9 ps rs f a)])/\bO H u (gJ ps rs f a)/\Below c c H:=by
 have aI:=hid_ (λj i=>n8 j r U ps rs (bR.a i G) (ck.a i al) aU);have aB:=hid_ (λj i=>nR j r N ps f (bR.a i G) (bO.a i P));have aD:Hid (∀j,Below c c j->Calls prog 128 #[r,.agg #[a.pred,C]] j λe H=>e=.returned (.int .i64 (cf ps a))/\Below j j H):=λj i=>rH j r C ps a.pred a.args (bR.a i G) (cr.a i Q);have aE:=lf_ P;have aJ:=lt_ Q;obtain⟨an,ao,rfl,_⟩:=G;obtain⟨av,aw,rfl,_⟩:=al;obtain⟨aO,aQ,rfl,_⟩:=P;obtain⟨L,M,rfl,_⟩:=Q;obtain⟨m,hW1⟩:=ex_ ((c.alloc (.cells #[.slice an ps ao,.slice av rs aw] 30)).alloc (.cells #[a.pred,.slice L a.args M] 55));have X:Below c c m:=U5;have a6:m.heap.size=c.heap.size+1+1:=UA;have ap:m.cell? c=some (.slice an ps ao):=UB;have aq:m.cell? ⟨c,1,none⟩=some (.slice av rs aw):=UB;have ar:m.cell? ⟨c.heap.size+1,0,none⟩=some (.int .i64 a.pred):=UB;have au:m.cell? ⟨c.heap.size+1,1,none⟩=some (.slice L a.args M):=UB;have I:=hid_ λj (i:Below m m j)=>an_ ((bF i Q0).trans ap) (an_ ((bF i Q0).trans aq) (an_ ((bF i Q0).trans ar) ((bF i Q0).trans au)));go_enter func79,ntmps79;go_wp2_with fail;refine mo_ (aI _ X) λaK O=>?_;have S:=bt_ X O;clear hW1 ap aq ar au;obtain⟨t,w,x,y⟩:=I aK O;by_cases h1:bP ps rs=0
 .have J:Hid (bS ps rs f=bW ps f):=by show _=_;rw[bS,if_neg UO]
  rw[h1];clear h1;go_wp2_with fail;refine mo_ (aB _ S) λaL af=>?_;have T:=bt_ S af;have Y:=bt_ O af;clear t w x y;obtain⟨t,w,x,y⟩:=I aL Y;by_cases h2:bW ps f=0
  .have HE1:Hid (e9 ps rs f a=cf ps a):=by show _=_;rw[e9,if_neg (by rw[J.out,h2];simp)]
   have aH:Hid (cf ps a=0->bu f a/\e9 ps rs f a=0/\gJ ps rs f a=dJ f a):=λh=>by
    exact aaE
   rw[h2];clear h2;go_wp2_with fail;refine mo_ (aD _ T) λo ag=>?_;have am:=bt_ T ag;have aN:=bt_ Y ag;clear t w x y;by_cases h3:cf ps a=0
   .obtain⟨z,hm,ai⟩:=aH h3;have HEE:Hid (e9 ps rs f a=0/\gJ ps rs f a=dJ f a):=⟨hm,ai⟩;have a2:=z.few;rw[h3];clear h3 hm ai;go_wp2_with fail;go_loopw [11,35] (λB R wr=>∃(k:Nat) (u:Value),u=B/\k<=f.length/\R=.int .i64 k/\wr.ownsRow o.heap.size 93 4 u (dJ (f.take k) a).length (cB (dJ (f.take k) a))/\Below o o wr) (λ_ R _=>f.length-(intOf R).toNat)
    case atStart=>exact⟨0,_,rfl,Nat.zero_le _,rfl,⟨rfl,.inl ⟨rfl,rfl⟩⟩,Below.refl _ _⟩
    obtain⟨k,u,rfl,a3,rfl,A,E⟩:=hrel;have kr:=bt_ am E;have Z:=bt_ aN E;by_cases F:k<f.length
    .obtain⟨aP,aS,aR,aj,a1,ax,ay,az,aA⟩:=cN (aE wr kr) F;obtain⟨rfl,rfl⟩:aO=some ⟨aP,aS,none⟩/\aQ=aR:=by simpa using aj
     have a4:(k:Int)<(f.length:Int):=Q0;have HMT:Hid (dJ (f.take (k+1)) a=dJ (f.take k) a++if iR a f[k] then[f[k]] else[]):=zs F
     have aG:Hid ((dJ (f.take k) a).length<=125):=by
      have h1:(dJ (f.take k) a).length<=(f.take k).length:=List.length_filter_le _ _;rw[List.length_take] at h1;show _<=_;omega
     have aF:=hid_ λd (q:Below wr wr d)=>FM d (.slice L a.args M) a.args f[k] (aJ d (kr.trans (q.mono kr.size))) z.two z.vars (z.fa _ (getElem_mem F)) (z.fb _ (getElem_mem F));have a7:=ax;have a8:=ay;have a9:=az;have ba:=aA;clear aj ax ay az aA;have W:Hid (iR a f[k]=(f[k].pred==a.pred&&kV f[k] a.args)):=rfl;generalize f[k]=g at*;obtain⟨n,D⟩:=ex_ (wr.alloc (.cells #[g.pred,g.a,g.b,g.val] 93));have s:Below wr wr n:=by rw[<-D];exact bH _ _
     have a5:n.heap.size=wr.heap.size+1:=by rw[<-D];simp
     have V:Hid (∀d,Below n n d->d.cell? wr=some (.int .i64 g.pred)/\d.cell? ⟨wr,1,none⟩=some (.int .i64 g.a)/\d.cell? ⟨wr,2,none⟩=some (.int .i64 g.b)/\d.cell? ⟨wr,3,none⟩=some (.int .i64 g.val)):=λd q=>by
      have e:∀B,d.cell? ⟨wr,B,none⟩=n.cell? ⟨wr,B,none⟩:=λB=>bF q Q0;rw[e,e,e,e,<-D];simp[go_sem]
     obtain⟨aa,ab,ac,ad⟩:=V n (Below.refl _ _);obtain⟨t,w,x,y⟩:=I n (Z.trans (s.mono Z.size));have l:=hid_ λd (q:Below wr wr d)=>an_ (cg A q) (E.trans (q.mono E.size));clear A;cases ak:(g.pred==a.pred)
     .have K:Hid (iR a g=false):=by show _=_;rw[W.out,ak];rfl
      rw[K.out,if_neg Q1,append_nil] at HMT;go_wp2_with fail;go_roundw
      case rel=>exact⟨k+1,u,rfl,Q0,Rv,by rw[HMT.out];exact(l _ s).1,(l _ s).2⟩
      exact S6
     have K:Hid (iR a g=kV g a.args):=by show _=_;rw[W.out,ak];rfl
     rw[K.out] at HMT;have aC:=aF n s;generalize kV g a.args=d at*;go_wp2_with fail;refine aC.mono ?_;rintro aX aM ⟨rfl,ah⟩;have p:=bt_ s ah;have aV:=(l _ p).2.size;clear t w x y aa ab ac ad D;obtain⟨aa,ab,ac,ad⟩:=V aM ah;cases d
     .rw[if_neg Q1,append_nil] at HMT;go_wp2_with fail;go_roundw
      case rel=>exact⟨k+1,u,rfl,Q0,Rv,by rw[HMT.out];exact(l _ p).1,(l _ p).2⟩
      exact S6
     rw[if_pos rfl] at HMT;go_wp2_with(at_builtin;refine jo _ rfl _ _ rfl o.heap.size u (dJ (f.take k) a) [g] (cg (l _ p).1 (bH _ _)) rfl _ rfl (kB (heap_alloc_new _ _)) (by have:=aG.out;simp;omega) RD ?_;intro v6 aW hown6 aT;have hx6:Below o o aW:=gY ((l _ p).2.alloc aV _) (cg (l _ p).1 (bH _ _)) aT RD);exact aeu
    obtain rfl:k=f.length:=Q0;rw[take_length] at A;have HFX:=hid_ (lz A U6);clear A;go_wp2_with fail;refine bodyPost_ret (v:=.tuple #[u,.int .i64 0]) Yc rfl ?_;exact abD
   have a0:(cf ps a==0)=false:=RJ;have HEE:Hid (gJ ps rs f a=[]):=by show _=_;rw[gJ,if_pos (by rw[HE1.out];exact h3)]
   go_wp2_with fail;refine bodyPost_ret (v:=.tuple #[.slice none 0 0,.int .i64 (cf ps a)]) Yc rfl ?_;exact⟨_,by rw[HE1.out],by rw[HEE.out];exact ie _,am⟩
  have aZ:(bW ps f==0)=false:=Q5
  have HE1:Hid (e9 ps rs f a=bW ps f/\gJ ps rs f a=[]):=by
   have e:e9 ps rs f a=bW ps f:=by rw[e9,if_pos (by rw[J.out];exact h2),J.out]
   exact⟨e,by rw[gJ,if_pos (by rw[e];exact h2)]⟩
  go_wp2_with fail;refine bodyPost_ret (v:=.tuple #[.slice none 0 0,.int .i64 (bW ps f)]) Yc rfl ?_;exact⟨_,by rw[HE1.out.1],U8,T⟩
 have aY:(bP ps rs==0)=false:=Q6
 have HE1:Hid (e9 ps rs f a=bP ps rs/\gJ ps rs f a=[]):=by
  have ae:bS ps rs f=bP ps rs:=by rw[bS,if_pos h1]
  have e:e9 ps rs f a=bP ps rs:=by rw[e9,if_pos (by rw[ae];exact h1),ae]
  exact⟨e,by rw[gJ,if_pos (by rw[e];exact h1)]⟩
 go_wp2_with fail;refine bodyPost_ret (v:=.tuple #[.slice none 0 0,.int .i64 (bP ps rs)]) Yc rfl ?_;exact⟨_,by rw[HE1.out.1],U8,S⟩
