import Derived.Test.YtlfccloaoopadagGreatDoorG28
import Derived.Test.YtlfccloaoopadagGreatDoorG47
open Go.Proofs.Tryz
set_option maxRecDepth 100000
set_option maxHeartbeats 0
open Option.some (injEq)
namespace Go.Proofs.YtlfccloaoopadagGreatDoor
open Go.ChangeShapes Go.WideShapes Go.ChangeAt Go.RowKit
variable{p:Prop}
theorem E0:∀{n:Nat} {s d:List UInt8} {b:List Prd},fO n s=some (b,d)->∀c∈b,c.name.size<=s.length
 |0,s,d,b,a,c,hq=>by
  rw[fO,injEq,Prod.mk.injEq] at a
  rw[<-a.1] at hq
  cases hq
 |n+1,s,d,b,a,c,hq=>by
  rw[fO] at a
  split at a
  .obtain⟨⟨h,j⟩,f,a⟩:=Option.bind_eq_some_iff.1 a
   obtain⟨⟨i,k⟩,g,a⟩:=Option.bind_eq_some_iff.1 a
   rw[injEq,Prod.mk.injEq] at a
   obtain⟨rfl,rfl⟩:=a
   rcases List.mem_cons.1 hq with rfl|hq
   .exact(O0 f).2.2.2.2
   have:=E0 g c hq
   have:=vp f
   simp only at*
   omega
  rw[injEq,Prod.mk.injEq] at a
  rw[<-a.1] at hq
  cases hq
theorem Pc{s b g}(a:jh s=some (b,g))(i:s.length<=4096):dU b:=by
 unfold jh at a;obtain⟨⟨j,k⟩,c,a⟩:=Option.bind_eq_some_iff.1 a;obtain⟨l,h,a⟩:=Option.bind_eq_some_iff.1 a;rw[injEq,Prod.mk.injEq] at a;obtain⟨rfl,rfl⟩:=a;intro f d;have:=E0 c f d;omega
def lr(s:List UInt8):Option (List Prd×List Rul):=if 4096<s.length then none else nI s
def lq(s:List UInt8):Int:=if 4096<s.length then 2 else match nI s with
 |none=>1
 |some _=>0
def DH(n:Nat)(w:World)(pv rv:Value):Option (List Prd×List Rul)->Prop
 |none=>pv=.slice none 0 0/\rv=.slice none 0 0
 |some x=>jR n w pv x.1/\kN n w rv x.2
theorem NE:∀a b,(callFunc 17 a).run prog b=.ok (.enter 17 a) b:=enters_of func17 QX rfl
def DI(W:World)(P:Nat)(s:List UInt8)(R:Option (List UInt8))(w':World):Prop:=
 au (W.heap.size+1) P (jZ W (bN s)) w'/\match jh s with
  |none=>R=none
  |some x=>R=some []/\∃pv rv,cR w' P pv rv/\jR W w' pv x.1/\kN W w' rv x.2
theorem qL(a:World)(b):(jZ a b).heap.size=a.heap.size+2:=by simp[jZ]
theorem sU(a:World)(b):Below a a (jZ a b):=(bH _ _).alloc Q1 _
theorem jR.c{n b}{g:World}{f d}(a:jR n g f d)(h:b<=n):jR b g f d:=⟨a.1,li a.2 h⟩
theorem kN.c{n g}{j:World}{i h}(l:kN n j i h)(a:g<=n):kN g j i h:=by
 obtain⟨q,m,o,p,d⟩:=l;exact⟨q,m,o,li p a,λk f=>⟨(d k f).1.b a,(d k f).2.b a⟩⟩
theorem XI(h:p:=by rw[qL];omega):p:=h
theorem ZB(h:p:=by
 have:=heap_alloc_new (W.alloc (.cells #[.bool false] 4)) (.cells #[.string (bN s)] 106)
 rw[World.size_alloc] at this
 exact this):p:=h
theorem Pw(W:World)(a s)(v:s.length<=4096)(k:cR W a (.slice none 0 0) (.slice none 0 0)):Calls prog 16 #[.string (bN s),.func (.func 17) #[] #[.pointer (some ⟨a,0,none⟩)]] W λe m=>∃f n,DI W a s f n/\e=.returned (.bool (decide (f=some [])))/\m=n.setCell W (.bool (decide (f=some []))):=by
 have q:=sU W (bN s);have j:=k.e
 have t:cu (jZ W (bN s)) (W.heap.size+1) s:=by
  exact ZB
 have u:(jZ W (bN s)).heap[W.heap.size]? =some (.cells #[.bool false] 4 (0,0)):=(Below.block (bH (W.alloc (.cells #[.bool false] 4)) _) _ Q1).trans (heap_alloc_new W _);have r:cR (jZ W (bN s)) a (.slice none 0 0) (.slice none 0 0):=(q.block a j).trans k;refine yW W (bN s) 17 #[.pointer (some ⟨a,0,none⟩)] NE (DI W a s) ?_;refine(Pt (jZ W (bN s)) (W.heap.size+1) a s t v r Q0).mono ?_;rintro e m ⟨g,d⟩;have l:=(g.rest W.heap.size j Q0 XI).trans u;cases b:jh s with
 |none=>
  rw[b] at d;refine⟨none,l,⟨g,?_⟩,d⟩;rw[b]
 |some y=>
  rw[b] at d;obtain⟨rfl,o,w,x,p,h,i⟩:=d;rw[qL] at h i;refine⟨some [],l,⟨g,?_⟩,rfl,o⟩;rw[b];exact⟨rfl,w,x,p,h.c Q0,i.c Q0⟩
theorem XJ(h:p:=by rw[HE.out.2];exact⟨rfl,rfl⟩):p:=h
theorem XK(h:p:=by rw[HE.out.1]):p:=h
theorem XL(h:p:=by have:=HS2.out;omega):p:=h
theorem Pu(f:World)(s)(aE:s.length<=9223372036854775807):Calls prog 7 #[.string (bN s)] f λe ak=>∃u o,e=.returned (.tuple #[.agg #[u,o],.int .i64 (lq s)])/\DH f ak u o (lr s)/\Below f f ak:=by
 have aF:=du s;by_cases E:4096<s.length
 .have HE:Hid (lq s=2/\lr s=none):=by
   unfold lq lr;rw[if_pos E,if_pos E];exact⟨rfl,rfl⟩
  have ax:(4096:Int)<(s.length:Int):=Q0;generalize bN s=av at*;go_enter func7,ntmps7;go_wp2_with fail;exact bodyPost_ret (v:=.tuple #[.agg #[.slice none 0 0,.slice none 0 0],.int .i64 2]) (by simp[results,results7,go_sem]) rfl ⟨_,_,XK,XJ,bH _ _⟩
 have m:=hid_ E;have ax:¬(4096:Int)<(s.length:Int):=Q0;obtain⟨g,x⟩:=ex_ ((f.alloc (.cells #[.slice none 0 0,.slice none 0 0] 30)).alloc (.cells #[.slice none 0 0,.slice none 0 0] 30));have ad:Below f f g:=by rw[<-x];exact(bH _ _).alloc Q1 _
 have ah:g.heap.size=f.heap.size+2:=by rw[<-x];simp
 have ai:cR g f (.slice none 0 0) (.slice none 0 0):=by rw[<-x];exact(Below.block (bH (f.alloc (.cells #[.slice none 0 0,.slice none 0 0] 30)) _) _ Q1).trans (heap_alloc_new f _)
 have aj:cR g (f.heap.size+1) (.slice none 0 0) (.slice none 0 0):=by
  have:=heap_alloc_new (f.alloc (.cells #[.slice none 0 0,.slice none 0 0] 30)) (.cells #[.slice none 0 0,.slice none 0 0] 30);rw[World.size_alloc,x] at this;exact this
 have W:=Pw g (f.heap.size+1) s Q0 aj;have al:=bK ad;have HS2:=bK ah;have ar:=bK ai;clear ad ah ai aj E;generalize bN s=av at*;go_enter func7,ntmps7;go_wp2_with fail;clear x;refine W.mono ?_;clear W;rintro e aH ⟨aa,k,⟨t,w⟩,rfl,rfl⟩;have ay:g.heap.size+2<=k.heap.size:=by have:=t.d;rw[qL] at this;exact this
 have q:cR (k.setCell g (.bool (decide (aa=some [])))) f (.slice none 0 0) (.slice none 0 0):=by
  unfold cR;rw[h_ XL];exact(t.low.block f.heap.size Q0).trans (((sU g (bN s)).block f.heap.size XL).trans ar.out)
 have B:Hid (Below f f (k.setCell g (.bool (decide (aa=some []))))):=by
  refine Below.setCell (p:=⟨g,0,none⟩) ?_ (by show f.heap.size<=g.heap.size;have:=HS2.out;omega) _;exact al.out.trans (((sU g (bN s)).mono XL).trans (t.low.mono Q0))
 cases n:jh s with
 |none=>
  rw[n] at w;simp only at w;subst w
  have HE:Hid (lq s=1/\lr s=none):=by
   unfold lq lr nI;rw[if_neg m.out,if_neg m.out,n];exact⟨rfl,rfl⟩
  have z:decide ((none:Option (List UInt8))=some [])=false:=Q1;rw[z] at q B⊢;clear n z;generalize k.setCell g (.bool false)=J at*;obtain⟨C,D,M,N⟩:=q.a;clear q t;go_wp2_with fail;refine bodyPost_ret (v:=.tuple #[.agg #[.slice none 0 0,.slice none 0 0],.int .i64 1]) (by simp[results,results7,go_sem,C,D]) rfl ⟨_,_,XK,XJ,?_⟩;exact(B.out.setCell (p:=⟨f,0,none⟩) (Nat.le_refl _) _).setCell (p:=⟨f,1,none⟩) (Nat.le_refl _) _
 |some az=>
  obtain⟨j,i⟩:=az;rw[n] at w;obtain⟨rfl,u,o,ae,P,Q⟩:=w;simp only at P Q;have z:decide ((some []:Option (List UInt8))=some [])=true:=Q1;rw[z] at q B⊢;clear z
  have y:k.heap[g.heap.size]? =some (.cells #[.bool false] 4 (0,0)):=by
   refine(t.rest g.heap.size XL Q0 XI).trans ?_;exact(Below.block (bH (g.alloc (.cells #[.bool false] 4)) _) _ Q1).trans (heap_alloc_new g _)
  have O:cR (k.setCell g (.bool true)) (f.heap.size+1) u o:=by
   unfold cR;rw[h_ XL];exact ae
  have F:jR g (k.setCell g (.bool true)) u j:=P.a (fh.a y QY);have G:kN g (k.setCell g (.bool true)) o i:=Q.b (fh.a y QY) (fh.a y QY) (fh.a y QY);generalize k.setCell g (.bool true)=J at*;have X:=n8 J u o j i F.b G.a (Pc n (by have:=m.out;omega));obtain⟨R,S,rfl⟩:=gk F.2
  obtain⟨T,U,rfl⟩:∃K L,o=.slice K i L:=by
   obtain⟨aG,rfl,_,aw,_⟩:=G;obtain⟨K,L,rfl⟩:=gk aw;exact⟨K,L,by rw[List.length_map]⟩
  have an:=bK F;have ap:=bK G;have aq:=bK q;have Z:=bK O;have Y:=bK n;obtain⟨C,D,M,N⟩:=O.a;clear q t ae P Q F G y n O ay;go_wp2_with fail;refine X.mono ?_;clear X;rintro e v ⟨rfl,r⟩;have aC:=Z.out.e;have am:=hid_ (B.out.trans (r.mono Q0));have I:Hid (cR v f (.slice none 0 0) (.slice none 0 0)):=(r.block _ Q0).trans aq.out;have au:Hid (cR v (f.heap.size+1) (.slice R j S) (.slice T i U)):=(r.block _ Q0).trans Z.out;clear C D M N;obtain⟨C,D,M,N⟩:=au.out.a;obtain⟨ab,ac,aA,aB⟩:=I.out.a;have V:Hid (∀l h,Below f f ((v.setCell f l).setCell ⟨f,1,none⟩ h)):=λl h=>(am.out.setCell (p:=⟨f,0,none⟩) (Nat.le_refl _) _).setCell (p:=⟨f,1,none⟩) (Nat.le_refl _) _;by_cases A:bP j i=0
  .have HE:Hid (lq s=0/\lr s=some (j,i)):=by
    unfold lq lr nI;rw[if_neg m.out,if_neg m.out,Y.out,Option.bind_some,if_pos A];exact⟨rfl,rfl⟩
   have ao:Hid (∀l h,jR f ((v.setCell f l).setCell ⟨f,1,none⟩ h) (.slice R j S) j/\kN f ((v.setCell f l).setCell ⟨f,1,none⟩ h) (.slice T i U) i):=λl h=>by
    have H:∀e,30≠e->fh e g.heap.size J ((v.setCell f l).setCell ⟨f,1,none⟩ h):=λe af=>(fh.c r).b ((fh.a I af).b (fh.a (I.out.c l) af));have ag:f.heap.size<=g.heap.size:=XL;exact⟨(an.out.a (H _ QY)).c ag,(ap.out.b (H _ QY) (H _ QY) (H _ QY)).c ag⟩
   rw[A];clear A r;go_wp2_with fail;exact bodyPost_ret (v:=.tuple #[.agg #[.slice R j S,.slice T i U],.int .i64 0]) (by simp[results,results7,go_sem,ab,ac]) rfl ⟨_,_,XK,by rw[HE.out.2];exact ao _ _,V _ _⟩
  have HE:Hid (lq s=1/\lr s=none):=by
   unfold lq lr nI;rw[if_neg m.out,if_neg m.out,Y.out,Option.bind_some,if_neg A];exact⟨rfl,rfl⟩
  have aD:(bP j i != 0)=true:=by simp[A]
  clear r;go_wp2_with fail;exact bodyPost_ret (v:=.tuple #[.agg #[.slice none 0 0,.slice none 0 0],.int .i64 1]) (by simp[results,results7,go_sem,ab,ac]) rfl ⟨_,_,XK,XJ,V _ _⟩
