import Derived.Test.YtlfccloaoopadagGreatDoorG34
import Derived.Test.YtlfccloaoopadagGreatDoorG35
import Derived.Test.YtlfccloaoopadagGreatDoorG43
open Go.Proofs.Tryz
set_option maxRecDepth 100000
set_option maxHeartbeats 0
open Go.Value (ownBlock)
open Int (toNat_natCast)
open List (all_cons all_eq_true any_cons any_eq_false any_eq_true append_assoc append_eq_nil_iff append_nil append_toArray cons_append ext_getElem filter_cons getElem?_eq_getElem getElem?_eq_none getElem_mem getElem_of_mem length_append length_cons length_map length_nil length_pos_iff map_append map_cons map_nil mem_cons mem_filter mem_flatMap mem_map mem_singleton nil_append push_toArray replicate size_toArray take_add_one take_length take_zero)
open Nat (add_zero le_refl le_trans lt_of_lt_of_le max_le mul_one reduceAdd reduceSub zero_add zero_le)
open Array (replicate_succ replicate_zero)
open Go.Oper (semAt_some)
open Go.World (alloc_heap_new cell? cell?_of_block size_alloc)
open Classical (byContradiction not_not)
open Option.some (injEq)
open Prod (fst snd)
open Option (getD_some toList_some)
namespace Go.Proofs.YtlfccloaoopadagGreatDoor
open Go.ChangeShapes Go.WideShapes Go.ChangeAt Go.RowKit
open Go.Sort Go.Shelf Go.Lib
variable{p:Prop}
def mc(s:Stp):List Value:=[.int .i64 s.rule,.int .i64 s.x,.int .i64 s.y,.int .i64 s.z]
instance:Inhabited Stp:=⟨⟨0,0,0,0⟩⟩
theorem GM{P:Nat->Prop}(b:P 0)(d:P 1)(f:P 2)(g:P 3):∀c,c<4->P c
 |0,_=>b
 |1,_=>d
 |2,_=>f
 |3,_=>g
 |c+4,a=>absurd a Q0
theorem GV{c:World}{f b d:Nat}{l:List Stp}(h:c.ownsRow f 140 4 (.slice (some ⟨b,0,none⟩) l d) l (cY l))(A:l.length<=500):HoldsK mc 4 c b 0 l.toArray/\f<=b/\b<c.heap.size:=by
 have w:=tI h Q0;obtain⟨_,⟨e,_⟩|⟨u,q,z,e,v,i,_⟩⟩:=h
 .cases e
 obtain⟨rfl,rfl⟩:b=u/\d=q:=Vu;refine⟨λa x=>?_,v,(Array.getElem?_eq_some_iff.1 i).1⟩;rw[size_flatK,size_toArray] at x;refine⟨?_,by simp[World.frozen?,i]⟩;have j:a/4<l.length:=Q0;obtain⟨p,y,r,s,_,k,m,n,o⟩:=nj w j;obtain⟨⟨rfl,rfl⟩,rfl⟩:(b=p/\0=y)/\d=r:=by simpa using s
 rw[get_flatK _ _ _ _ (by rw[size_toArray];omega)];have t:l.toArray[a/4]! =l[a/4]:=by simp[j]
 rw[t,show(0+a:Nat)=0+a/4*4+a%4 by omega];exact GM (P:=λg=>c.cell? ⟨b,0+a/4*4+g,none⟩=some (id (mc l[a/4])[g]!)) k m n o (a%4) Q0
theorem Aw{a:World}{c b n g f}(h:c<=b)(i:b<a.heap.size):Below c a (sortWorldK mc 4 a b 0 n g f):=by
 refine⟨rfl,rfl,rfl,?_,λd j=>?_⟩
 .unfold sortWorldK grow putRowK putRow mapBlock Sort.ahead;simp
 unfold sortWorldK grow putRowK putRow mapBlock Sort.ahead;show(Array.modify a.heap b _++f)[d]? =a.heap[d]?;rw[Array.getElem?_append_left RD,Array.getElem?_modify,if_neg Q0]
theorem Hk{d:World}{b h n:Nat}{l:List Stp}{a:Array Stp}{o:Array Obj}(q:HoldsK mc 4 d b 0 l.toArray)(f:b<d.heap.size)(m:a.size=l.length)(x:l.length<=500):cL (sortWorldK mc 4 d b 0 n a o) (.slice (some ⟨b,0,none⟩) l h) a.toList:=by
 have s:HoldsK mc 4 (sortWorldK mc 4 d b 0 n a o) b 0 a:=by
  have r:HoldsK mc 4 (Sort.ahead d n) b 0 l.toArray:=q;have u:a.size=l.toArray.size:=by simpa using m
  refine holdsK_grow _ _ _ _ _ _ _ ?_ (holdsK_putRowK _ _ _ _ _ _ _ r u);unfold putRowK putRow mapBlock Sort.ahead;simpa using f
 have i:=(Array.length_toList).trans m;refine⟨some ⟨b,0,none⟩,h,by rw[i],by rw[i];omega,.inr ⟨b,0,rfl,?_,λg w j=>?_⟩⟩
 .exact lt_of_lt_of_le f (Aw (zero_le _) f).size
 have k:g<a.size:=by
  have:=(List.getElem?_eq_some_iff.1 j).1;simpa using this
 have p:a[g]! =w:=by
  rw[getElem!_pos a g k];have:=(List.getElem?_eq_some_iff.1 j).2;simpa using this
 have c:=λv t=>(s.cell (c:=v) k t).1;rw[p] at c;exact⟨c 0 Q0,c 1 Q0,c 2 Q0,c 3 Q0⟩
theorem tG(s a):ltOf mG s a=iT s a:=GG s a
theorem Hp:SWO (ltOf mG) where
 irrefl x:=by rw[tG];exact tH x
 trans x y z h1 h2:=by rw[tG] at*;exact Ao h1 h2
 ntrans x y z h1 h2:=by rw[tG,wv] at*;omega
theorem GF(a b c)(d:World):CmpLays prog 211 #[] mc 4 mG a b c d:=λ_ _ _ _ f g=>Gz f g _
theorem Hj(b:World)(m:Nat)(c:Value)(l:List Stp)(o:b.ownsRow m 140 4 c l (cY l))(r:l.length<=500):Calls prog 210 #[c,.func (.func 211) #[] #[]] b λe k=>e=.returned (.tuple #[])/\(∃j:List Stp,j.Perm l/\j.Pairwise (λs H=>iT H s=false)/\cL k c j)/\Below m b k:=by
 have F:=o;obtain⟨_,⟨rfl,E⟩|⟨d,n,I,rfl,_,_,_⟩⟩:=o
 .have D:=List.eq_nil_of_length_eq_zero E;subst D;refine mq_ (show Calls prog 210 #[.slice none 0 0,.func (.func 211) #[] #[]] b _ from AnyF.slices_SortFunc_none Av none 0 _ b) ?_;exact⟨rfl,⟨[],List.Perm.refl _,List.Pairwise.nil,⟨none,0,rfl,Q1,.inl rfl⟩⟩,Below.refl _ _⟩
 obtain⟨p,x,f⟩:=GV F r;have q:=AnyQ.slices_SortFunc Av 4 isAgg140 sizeOf140 mc (λ_=>rfl) (λL c u=>by simp[mc] at u;rcases u with rfl|rfl|rfl|rfl<;>rfl) mG Hp 211 #[] d 0 n l.toArray b (enters_of func211 SI rfl) (GF d 0 _ b) p f (by rw[size_toArray];omega);rw[size_toArray] at q;refine(show Calls prog 210 #[.slice (some ⟨d,0,none⟩) l n,.func (.func 211) #[] #[]] b _ from q).mono ?_;rintro e k ⟨rfl,a,J,K,⟨g,_,t⟩,G,rfl⟩;replace g:a.size=l.length:=by have:l.toArray.size=l.length:=size_toArray;omega
 refine⟨rfl,⟨a.toList,?_,?_,Hk p f g r⟩,Aw x f⟩
 .have v:a.extract 0 l.length=a:=by rw[<-g];exact Array.extract_size
  have w:l.toArray.extract 0 l.length=l.toArray:=by
   have:=Array.extract_size (xs:=l.toArray);rwa[size_toArray] at this
  rw[v,w] at t;exact t
 rw[List.pairwise_iff_getElem];intro h i y B A;have z:h<a.size:=by simpa using y
 have C:i<a.size:=by simpa using B
 have:=G h i (zero_le _) A Q0;rw[tG,getElem!_pos a h z,getElem!_pos a i C] at this;simpa using this
theorem G9{g:World}{b c e d n f h}(l:g.ownsRow b e d f n h)(q:c<=b):g.ownsRow c e d f n h:=by
 obtain⟨m,a⟩:=l;refine⟨m,?_⟩;rcases a with a|⟨k,i,j,a,p,o⟩
 .exact .inl a
 exact .inr ⟨k,i,j,a,Q0,o⟩
theorem G_{j:World}{b e i n d k}(g:j.ownsRow b e i d n k){a}(c:d.ownBlock=some a):b<=a:=by
 obtain⟨_,⟨rfl,_⟩|⟨f,l,m,rfl,h,_⟩⟩:=g
 .cases c
 obtain rfl:f=a:=by simpa[ownBlock] using c
 exact h
def mb(ps:List Prd)(rs:List Rul)(f:List Fct)(n:Int):List Stp:=if ev ps rs f n≠0 then[] else match rs[n.toNat]? with
 |some r=>bI f r n
 |none=>[]
theorem wg(a:World)(y z L d b f)(n:Int)(P:bR a y d)(Q:ck a z b)(N:bO a L f)(ah:dU d):Calls prog 168 #[.agg #[y,z],L,n] a λe h=>(∃g,e=.returned (.tuple #[g,.int .i64 (ev d b f n)])/\cL h g (mb d b f n)/\∀t,g.ownBlock=some t->a.heap.size<=t)/\Below a a h:=by
 have H:=lp_ P;have I:=lr_ Q;have G:=lf_ N;obtain⟨j,hW1⟩:=ex_ (a.alloc (.cells #[y,z] 30));have k:Below a a j:=VO;have s:=hid_ (Ae j _ _ _ d b f n (H _ k) (I _ k) (G _ k) ah);have S:j.cell? a=some y:=UB;have T:j.cell? ⟨a,1,none⟩=some z:=UB;have az:j.heap.size=a.heap.size+1:=UA;obtain⟨am,an,rfl,_⟩:=P;obtain⟨ap,aq,rfl,_⟩:=Q;obtain⟨ab,ac,rfl,_⟩:=N;by_cases hfe:ev d b f n=0
 .obtain⟨F,A,av,aw⟩:=Ah hfe;obtain⟨c,rfl⟩:∃c:Nat,n=(c:Int):=⟨n.toNat,Q0⟩;have E:c<b.length:=Q0;have B:Hid (mb d b f c=bI f b[c] c):=by show _=_;rw[mb,if_neg VG,toNat_natCast,getElem?_eq_getElem E]
  have Y:Hid (∀i,Below a a i->Calls prog 209 #[.agg #[.slice am d.length an,.slice ap b.length aq],.slice ab f.length ac,c] i λe h=>∃g m,e=.returned g/\h.ownsRow i.heap.size 140 4 g m.length (cY m)/\Below i i h/\m.length<=500/\∀o:List Stp,o.Perm m->o.Pairwise (λar au=>iT au ar=false)->o=bI f b[c] c):=λi l=>by
   have R:=eU F _ (getElem_mem E);refine(Hn i _ _ _ d b f c (H _ l) (I _ l) (G _ l) (eU F) A E).mono ?_;rintro e h ⟨g,rfl,ai,u⟩;refine⟨g,_,rfl,G9 ai Q0,u,?_,λo C D=>G5 R A C D⟩;rw[length_map];have:=Ak R A;omega
  have U:=hid_ λi (l:Below j j i)=>an_ ((bF l Q0).trans S) ((bF l Q0).trans T);have V:=hid_ hfe;rw[hfe] at s;clear F A av aw hfe;generalize b[c]=ao at*;go_enter func168,ntmps168;go_wp2_with fail;refine mo_ s.out λJ v=>?_;have x:=bt_ k v;clear hW1 S T s;obtain⟨Z,aa⟩:=U _ v;go_wp2_with fail;refine(Y _ x).mono ?_;rintro e K ⟨g,m,rfl,w,ag,O,M⟩;have ak:=bt_ x ag;obtain⟨p,r,q,rfl⟩:=Ar w;have X:Hid (Calls prog 210 #[.slice p r q,.func (.func 211) #[] #[]] K λe h=>e=.returned (.tuple #[])/\cL h (.slice p r q) (bI f ao c)/\Below a a h):=(Hj K J (.slice p r q) m w O).mono λe h ⟨C,⟨o,D,ad,ae⟩,af⟩=>⟨C,by rw[<-M o D ad];exact ae,ak.trans (af.mono x.size)⟩;have W:=hid_ λt (u:(Value.slice p r q).ownBlock=some t)=>le_trans x.size (G_ w u);clear w M O Z aa;go_wp2_with fail;refine X.out.mono ?_;rintro e ax ⟨rfl,aj,al⟩;go_wp2_with fail;refine bodyPost_ret (v:=.tuple #[.slice p r q,.int .i64 0]) (by simp[results,results168,go_sem]) rfl ?_;exact⟨⟨.slice p r q,by rw[V.out],by rw[B.out];exact aj,W.out⟩,al⟩
 have B:Hid (mb d b f n=[]):=by show _=_;rw[mb,if_pos hfe]
 go_enter func168,ntmps168;go_wp2_with fail;refine mo_ s.out λJ v=>?_;have ay:(ev d b f n==0)=false:=by simpa using hfe
 clear s;go_wp2_with fail;refine bodyPost_ret (v:=.tuple #[.slice none 0 0,.int .i64 (ev d b f n)]) (by simp[results,results168,go_sem]) rfl ?_;exact⟨⟨.slice none 0 0,rfl,by rw[B.out];exact⟨none,0,rfl,Q1,.inl rfl⟩,λt u=>by cases u⟩,k.trans (v.mono k.size)⟩
attribute [local go_sem] semAt_some
theorem uk{b c:World}(a:Below b b c):b.grownBy c none:=⟨a.os,a.tape,a.output,a.size,λk d _=>a.block k d⟩
structure ag (n₀:Nat) (X:Nat->Prop) (A B:World):Prop where
 below:Below n₀ A B
 but:aq X A B
theorem ag.c(d)(b:Nat->Prop)(a:World):ag d b a a:=⟨Below.refl _ _,aq.e _ _⟩
theorem ag.a{d}{b:Nat->Prop}{f g h:World}(i:ag d b f g)(k:ag d b g h):ag d b f h:=⟨i.below.trans k.below,i.but.c k.but⟩
theorem ag.b{f}{g:Nat->Prop}{a c:World}(d:Below a a c)(h:f<=a.heap.size):ag f g a c:=⟨d.mono h,Jc d⟩
theorem Zr(h:p:=by
 obtain⟨a,cap,rfl,hl,hx⟩:=h
 refine⟨a,cap,rfl,hl,?_⟩
 rcases hx with hx|⟨b,off,rfl,hb,hx⟩
 .exact .inl hx
 have hne:=hX b rfl
 exact .inr ⟨b,off,rfl,lt_of_lt_of_le hb hk.size,λi x hi=>⟨hk.a hne (hx i x hi).1,hk.a hne (hx i x hi).2.1,hk.a hne (hx i x hi).2.2.1,hk.a hne (hx i x hi).2.2.2⟩⟩):p:=h
theorem Cm{g:Nat->Prop}{d f:World}{c l}(hk:aq g d f)(hX:∀b,c.ownBlock=some b->¬g b)(h:cL d c l):cL f c l:=by
 exact Zr
abbrev kI(T:List Fct):={x:Fct//x∈T}
def oZ{T:List Fct}(x:kI T):Array Value:=#[.agg #[x.1.pred,x.1.a,x.1.b,x.1.val]]
def eD{T:List Fct}(l:List (kI T)):List Fct:=l.map λx=>x.1
theorem rE{a}(l:List (kI a))(b:kI a):eD (l++[b])=eD l++[b.1]:=by simp[eD]
theorem xx{a}(l:List (kI a)):(eD l).length=l.length:=by simp[eD]
theorem Kc(b)(a:Rul->Bool)(f c k):(cK b a f (c.take k)).length<=(cK b a f c).length:=by
 have:cK b a f c=cK b a f (c.take k)++cK b a f (c.drop k):=by
  unfold cK;exact aaW
 rw[this,length_append];omega
theorem Ke{c}{b:Rul->Bool}{f a n}(h:n<a.length)(g:b a[n]=true):∀d∈eV c f a[n],d∈cK c b f a:=λd i=>
 mem_flatMap.2 ⟨a[n],getElem_mem h,by rw[if_pos g];exact i⟩
theorem VT(h:p:=by rw[hw₀];exact hb₀.trans hx.below):p:=h
theorem VU(h:p:=by rw[ev,if_neg (by rw[hpe];simp),if_neg (by rw[hfe];simp),if_pos (by omega)]):p:=h
theorem VV(h:p:=by rw[mb,if_neg (by rw[e];simp),toNat_natCast,getElem?_eq_getElem hn]):p:=h
theorem VW(h:p:=by rw[f9,if_neg (by rw[e];simp),if_pos g2]):p:=h
theorem VX(h:p:=by have:=(hX k h).2;omega):p:=h
theorem VY(h:p:=by show _=_;rw[HSU.out,hS,if_neg (by simp),append_nil]):p:=h
theorem VZ(h:p:=by simpa using hsv):p:=h
theorem V0(h:p:=by rw[<-hW5];exact bH _ _):p:=h
theorem V1(h:p:=by rw[<-hW5];simp[go_sem]):p:=h
theorem V9(h:p:=by show _=_;rw[hpre'.out,HSN.out,HRT.out]):p:=h
theorem V_(h:p:=by have:=hpre.out;rwa[take_length] at this):p:=h
theorem aam(h:p:=by
 clear n0 n1 n2 n3 hy
 gi_wp2_with fail
 refine bodyPost_ret (results_none rfl _ _ _) rfl ?_
 exact⟨⟨_,rfl⟩,.inr ⟨_,trivial,hJx8⟩⟩):p:=h
theorem aaU(h:p:=by
 obtain rfl:k=rs.length:=Q0
 gi_wp2_with fail
 go_end0
 exact⟨⟨_,rfl⟩,.inl ⟨pre,V_,hJk⟩⟩):p:=h
theorem adp(h:p:=by exact Cm hB.but (λb hb=>HX2 b (le_trans k3.but.size (hnew b hb))) h):p:=h
theorem abB(h:p:=by
 have e2:mb ps rs f n=bI f rs[n] n:=VV
 rw[e,e2] at h
 exact h):p:=h
theorem aes(h:p:=by
 clear HSU HLE
 gi_wp2_with fail
 go_roundw
 case rel=>exact⟨k+1,pre,Q0,Rv,by show _=_;rw[HSN.out];exact hpre.out,hJ3,k3⟩
 exact S6):p:=h
theorem aev(h:p:=by
 gi_wp2_with fail
 go_roundw
 case rel=>exact⟨k+1,pre',Q0,Rv,V9,hJq,hkq⟩
 exact S6):p:=h
theorem Ka(n)(hn:1<=n)(R ac ab m)(j:Nat->Prop)(F G D U a5 ps rs f)(i:Rul->Bool)(g:World)(av:¬j R)(aQ:¬j ac)(aP:¬j ab)(hX:∀k,j k->m<=k/\k<g.heap.size)(aZ:m<=g.heap.size)(aT:g.cell? R=some F)(aU:g.cell? ⟨R,1,none⟩=some G)(aV:g.cell? ac=some (.func (.func U) #[] a5))(aW:g.cell? ab=some D)(B:World)(hw₀:B.heap.size=m)(hb₀:Below m B g)(a0:bR B F ps)(ax:ck B G rs)(aX:bO B D f)(ay:dU ps)(hpe:bP ps rs=0)(hfe:bW ps f=0)(b4:∀aJ g,(callFunc U aJ).run prog g=.ok (.enter U aJ) g)(a3:∀(c:World) (n:Nat) (hn:n<rs.length) (P:Option Addr) (Q:Nat) (M:Option Addr) (N:Nat),ag m j g c->Calls prog U (#[.agg #[.int .i64 rs[n].head.pred,.slice P rs[n].head.args.length Q,.int .i64 rs[n].src,.int .i64 rs[n].n,.slice M rs[n].body.length N]]++a5) c λe H=>e=.returned (.bool (i rs[n]))/\Below c c H):SeqStopsK Fence.wide n prog 197 #[.pointer (some ⟨R,0,none⟩),.pointer (some ⟨ac,0,none⟩),.pointer (some ⟨ab,0,none⟩)] (oZ (T:=cK ps i f rs)) (ag m j) (λbX=>eD bX=cK ps i f rs) (λ_=>True) (cK ps i f rs).length g:=λl af bY aH aN bi _ bn bh=>by
 have br:=eU hpe
 have aF:Hid (ag m j g aH):=ag.b aN aZ
 have ae:Hid (∀c,ag m j g c->Below B B c):=λc hx=>VT
 have v:=hid_ λc (hx:ag m j g c)=>an_ (bR.a (ae c hx) a0) (an_ (ck.a (ae c hx) ax) (bO.a (ae c hx) aX))
 have J:=hid_ λc (hx:ag m j g c)=>an_ (hx.but.a av aT) (an_ (hx.but.a av aU) (an_ (hx.but.a aQ aV) (hx.but.a aP aW)))
 have aD:Hid (∀c n,(hn:n<rs.length)->ag m j g c->Calls prog 168 #[.agg #[F,G],D,n] c λe H=>(∃aA,e=.returned (.tuple #[aA,.int .i64 0])/\cL H aA (bI f rs[n] n)/\∀b,aA.ownBlock=some b->c.heap.size<=b)/\Below c c H):=λc n hn hx=>by
  have h:=wg c F G D ps rs f n (v c hx).1 (v c hx).2.1 (v c hx).2.2 ay
  have e:ev ps rs f n=0:=VU
  exact abB
 have aE:Hid (∀c n,(hn:n<rs.length)->∀k,(V:k<(bI f rs[n] n).length)->ag m j g c->Calls prog 198 #[.agg #[F,G],D,n,.agg #[.int .i64 (bI f rs[n] n)[k].x,.int .i64 (bI f rs[n] n)[k].y,.int .i64 (bI f rs[n] n)[k].z]] c λe H=>e=.returned (.tuple #[.bool true,.agg #[.int .i64 (co ps f rs[n] (bI f rs[n] n)[k].a).pred,.int .i64 (co ps f rs[n] (bI f rs[n] n)[k].a).a,.int .i64 (co ps f rs[n] (bI f rs[n] n)[k].a).b,.int .i64 (co ps f rs[n] (bI f rs[n] n)[k].a).val],.int .i64 0])/\Below c c H):=λc n hn k V hx=>by
  have h:=wh c F G D ps rs f n (bI f rs[n] n)[k].a (v c hx).1 (v c hx).2.1 (v c hx).2.2 ay
  obtain⟨bf,g2,bg⟩:=xy (ps:=ps) V
  have e:ev ps rs f n=0:=VU
  have q:f9 ps rs f n (bI f rs[n] n)[k].a=0:=VW
  have w:iF ps rs f n (bI f rs[n] n)[k].a=true:=by rw[iF,if_neg (by rw[q];simp),toNat_natCast,getElem?_eq_getElem hn];exact bf
  have e2:gL ps rs f n (bI f rs[n] n)[k].a=co ps f rs[n] (bI f rs[n] n)[k].a:=by rw[gL,if_neg (by rw[q];simp),toNat_natCast,getElem?_eq_getElem hn];exact bg
  rw[q,w,e2] at h
  exact h
 have aG:=hid_ a3
 have HX2:Hid (∀k,g.heap.size<=k->¬j k):=λk V h=>VX
 have S:=hid_ λpre u I (ar:af pre u)(au:Below u u I)=>bi _ _ _ none ar (uk au) (λ_ e=>T8)
 have K:=hid_ λc (hx:ag m j g c)=>le_trans aZ hx.but.size
 obtain⟨ce,cf,rfl,_⟩:=a0
 obtain⟨bC,bE,rfl,cb,bs⟩:=id ax
 obtain⟨b5,b6,rfl,_⟩:=aX
 clear bs hpe hfe br a3 hX hb₀ aT aU aV aW aN ay av aQ aP ax
 refine callsIn_of_wp func197 rfl trivial ?_ rfl
 simp only[ntmps197,size_toArray,length_cons,length_nil,reduceAdd,reduceSub,replicate_succ,replicate_zero,push_toArray,append_toArray,nil_append,cons_append]
 obtain⟨ai,aj,ak,al⟩:=J aH aF.out
 gi_wp2_with fail
 clear ai aj ak al
 gi_loopw [17] (λA wr=>∃(k:Nat) (pre:List (kI (cK ps i f rs))),k<=rs.length/\A=.int .i64 k/\Hid (eD pre=cK ps i f (rs.take k))/\af pre wr/\ag m j g wr) (λA _=>rs.length-(intOf A).toNat)
 case atStart=>exact⟨0,[],zero_le _,rfl,rfl,bh,aF.out⟩
 obtain⟨k,pre,V,rfl,hpre,hJk,W⟩:=hrel
 obtain⟨ai,aj,ak,al⟩:=J wr W
 by_cases E:k<rs.length
 .obtain⟨bD,bG,bF,hv,ca,bo⟩:=cN (v wr W).2.1 E
  obtain⟨rfl,rfl⟩:bC=some ⟨bD,bG,none⟩/\bE=bF:=SC
  obtain⟨bM,⟨cd,bN,bQ⟩,bS,bT,b3,bU,bV⟩:=bo
  obtain⟨M,N,rfl,_⟩:=bV
  obtain⟨P,Q,rfl,_⟩:=bQ
  have b8:(k:Int)<(rs.length:Int):=Q0
  clear hv
  obtain⟨t,hW2⟩:=ex_ (wr.alloc (.cells #[.int .i64 rs[k].head.pred,.slice P rs[k].head.args.length Q,.int .i64 rs[k].src,.int .i64 rs[k].n,.slice M rs[k].body.length N] 58))
  have aK:Below wr wr t:=VP
  have Y:=W.a (ag.b aK (K _ W))
  obtain⟨am,an,ao,ap,be⟩:t.cell? wr=some (.int .i64 rs[k].head.pred)/\t.cell? ⟨wr,1,none⟩=some (.slice P rs[k].head.args.length Q)/\t.cell? ⟨wr,2,none⟩=some (.int .i64 rs[k].src)/\t.cell? ⟨wr,3,none⟩=some (.int .i64 rs[k].n)/\t.cell? ⟨wr,4,none⟩=some (.slice M rs[k].body.length N):=Vz
  obtain⟨q,w,e2,O⟩:=J t Y
  have aM:=S _ _ _ hJk aK
  gi_wp2_with fail
  refine⟨trivial,CallsIn.mono (callsIn_wide.2 (aG t k E P Q M N Y)) ?_⟩
  rintro aq aI ⟨rfl,aR⟩
  have k3:=Y.a (ag.b aR (K _ Y))
  have hJ3:=S _ _ _ aM aR
  clear hW2 am an ao ap be q w e2 O ai aj ak al bM bN bS bT bU aM hJk
  have HSU:Hid (cK ps i f (rs.take (k+1))=cK ps i f (rs.take k)++if i rs[k] then eV ps f rs[k] else[]):=Co E
  have HLE:=hid_ (Kc ps i f rs (k+1))
  cases hS:i rs[k]
  .have HSN:Hid (cK ps i f (rs.take (k+1))=cK ps i f (rs.take k)):=VY
   exact aes
  have HSN:Hid (cK ps i f (rs.take (k+1))=cK ps i f (rs.take k)++eV ps f rs[k]):=by show _=_;rw[HSU.out,hS,if_pos rfl]
  have a8:Hid (∀c∈eV ps f rs[k],c∈cK ps i f rs):=Ke E hS
  have aC:=hid_ (λc hx=>aD c k E hx)
  have a6:=hid_ (λc o a1 hx=>aE c k E o a1 hx)
  clear HSU aD aE aG hS
  generalize rs[k]=d at*
  obtain⟨q,w,e2,O⟩:=J aI k3
  gi_wp2_with fail
  refine⟨trivial,CallsIn.mono (callsIn_wide.2 (aC aI k3)) ?_⟩
  rintro aq bZ ⟨⟨ch,rfl,a2,hnew⟩,aS⟩
  have bv:=k3.a (ag.b aS (K _ k3))
  have bj:=S _ _ _ hJ3 aS
  clear q w e2 O hJ3 aC
  have a9:=ls_ a2
  have ad:Hid ((eV ps f d).length=(bI f d k).length):=by show _=_;rw[rF ps f d k,length_map]
  obtain⟨Z,aa,rfl,_⟩:=a2
  have bb:Hid (∀u I,ag m j u I->cL u (.slice Z (bI f d k).length aa) (bI f d k)->cL I (.slice Z (bI f d k).length aa) (bI f d k)):=λu I hB h=>by
   exact adp
  gi_wp2_with fail
  gi_loopw [35] (λA aB=>∃(o:Nat) (pre':List (kI (cK ps i f rs))),o<=(bI f d k).length/\A=.int .i64 o/\Hid (eD pre'=cK ps i f (rs.take k)++(eV ps f d).take o)/\af pre' aB/\ag m j g aB/\cL aB (.slice Z (bI f d k).length aa) (bI f d k)) (λA _=>(bI f d k).length-(intOf A).toNat)
  case atStart=>exact⟨0,pre,zero_le _,rfl,by show _=_;rw[take_zero,append_nil];exact hpre.out,bj,bv,a9 _ (Below.refl _ _)⟩
  obtain⟨o,pre',a1,rfl,hpre',hJq,hkq,az⟩:=hrel
  by_cases X:o<(bI f d k).length
  .obtain⟨bJ,bL,bK,hsv,cc,bx,bz,bA,bB⟩:=nj az X
   obtain⟨rfl,rfl⟩:Z=some ⟨bJ,bL,none⟩/\aa=bK:=VZ
   have b9:(o:Int)<((bI f d k).length:Int):=Q0
   have a7:=hid_ (λc hx=>a6 c o X hx)
   have bc:Hid ((eV ps f d).take (o+1)=(eV ps f d).take o++[co ps f d (bI f d k)[o].a]):=Cn X
   have bp:=a8 _ (by rw[rF ps f d k];exact mem_map.2 ⟨_,getElem_mem X,rfl⟩)
   have ba:=hid_ az
   have bq:pre'.length<(cK ps i f rs).length:=by
    have ar:=HLE.out
    have au:=congrArg List.length hpre'.out
    rw[HSN.out,length_append,ad.out] at ar
    rw[xx,length_append,List.length_take,ad.out] at au
    omega
   clear hsv az
   generalize(bI f d k)[o]=r at*
   generalize co ps f d r.a=s at*
   obtain⟨p,hW5⟩:=ex_ (wr.alloc (.cells #[r.rule,r.x,r.y,r.z] 140))
   have aL:Below wr wr p:=V0
   have a4:=hkq.a (ag.b aL (K _ hkq))
   obtain⟨am,an,ao,ap⟩:p.cell? wr=some (.int .i64 r.rule)/\p.cell? ⟨wr,1,none⟩=some (.int .i64 r.x)/\p.cell? ⟨wr,2,none⟩=some (.int .i64 r.y)/\p.cell? ⟨wr,3,none⟩=some (.int .i64 r.z):=V1
   obtain⟨q,w,e2,O⟩:=J p a4
   gi_wp2_with fail
   refine⟨trivial,CallsIn.mono (callsIn_wide.2 (a7 p a4)) ?_⟩
   rintro aq L ⟨rfl,aw⟩
   obtain⟨C,aO⟩:=ex_ (L.alloc (.cells #[s.pred,s.a,s.b,s.val] 93))
   have bd:Below p p C:=by rw[<-aO];exact aw.alloc aw.size _
   have ah:=bt_ aL bd
   have bw:=hkq.a (ag.b ah (K _ hkq))
   obtain⟨n0,n1,n2,n3⟩:C.cell? L=some (.int .i64 s.pred)/\C.cell? ⟨L,1,none⟩=some (.int .i64 s.a)/\C.cell? ⟨L,2,none⟩=some (.int .i64 s.b)/\C.cell? ⟨L,3,none⟩=some (.int .i64 s.val):=by rw[<-aO];simp[go_sem]
   have bk:=S _ _ _ hJq ah
   have bt:=hid_ (cL.a ah ba.out)
   clear hW5 am an ao ap q w e2 O bx bz bA bB aw
   obtain⟨b7,cg,b1,b2,hy,bm⟩:=bn pre' ⟨s,bp⟩ C bk bq
   dsimp only[oZ] at hy
   gi_wp2_with fail
   refine bm.mono ?_
   rintro aq b0 (⟨rfl,bl,aY⟩|⟨rfl,hJx8⟩)
   .have bu:=hid_ (bb _ _ aY bt.out)
    clear n0 n1 n2 n3 hy
    gi_wp2_with fail
    go_roundw
    case rel=>exact⟨o+1,_,Q0,Rv,by show _=_;rw[rE,hpre'.out,bc.out,append_assoc],bl,bw.a aY,bu.out⟩
    exact S6
   exact aam
  obtain rfl:o=(bI f d k).length:=Q0
  have HRT:=hid_ (List.take_of_length_le (by rw[ad.out];exact le_refl _))
  exact aev
 exact aaU
attribute [local go_sem] semAt_some
def bM(ps:List Prd)(rs:List Rul):List Nat:=(eX (cI rs) ps).getD []
def bV(ps:List Prd)(rs:List Rul)(f:List Fct)(s:Int):List Fct:=if bS ps rs f≠0 then[] else cA (bJ ps) f (cK ps (ce (bM ps rs) s) f rs)
def cM(ps:List Prd)(rs:List Rul)(f:List Fct)(s:Int):Bool:=if bS ps rs f≠0 then false else gh (bJ ps) f (cK ps (ce (bM ps rs) s) f rs)
theorem iq{a b}(d:bP a b=0):eX (cI b) a.length=some (bM a b)/\(bM a b).length=a.length:=by
 obtain⟨f,g,c⟩:=gO d;have e:bM a b=g:=by unfold bM;rw[c];rfl
 rw[e];exact⟨c,(o9 (lJ (gN f).2.2) c).1⟩
theorem rD{h i:World}{m l k}(r:bO h m l)(b:h.grownBy i k)(d:∀j,k=some j->∃o:Obj,h.heap[j]? =some o/\o.isCells=false):bO i m l:=by
 obtain⟨n,q,rfl,t,a⟩:=r;refine⟨n,q,rfl,t,?_⟩;rcases a with a|⟨p,u,rfl,s,a⟩
 .exact .inl a
 exact .inr ⟨p,u,rfl,lt_of_lt_of_le s b.size,λf g c=>⟨cell_kept (a f g c).1 b d,cell_kept (a f g c).2.1 b d,cell_kept (a f g c).2.2.1 b d,cell_kept (a f g c).2.2.2 b d⟩⟩
theorem uq{h}{j:Nat->Prop}{b d i:World}{p}(c:ag h j b d)(f:d.grownBy i p)(l:h<=b.heap.size)(n:∀a,p=some a->b.heap.size<=a/\∃o:Obj,d.heap[a]? =some o/\o.isCells=false):ag h j b i:=by
 refine⟨c.below.grown f (le_trans l c.but.size) (λg e=>le_trans l (n g e).1),le_trans c.but.size f.size,λg o r q m=>?_⟩;have k:=c.but.same g o r q m;exact(grownBy_keeps_cells f (λa e=>(n a e).2) k m).trans k
theorem J8{c d:World}{h l}(k:dD c h l)(m:∀a o g,a<c.heap.size->c.cell? ⟨a,o,none⟩=some g->d.cell? ⟨a,o,none⟩=some g)(q:c.heap.size<=d.heap.size):dD d h l:=by
 obtain⟨i,j,rfl,p,b⟩:=k;refine⟨i,j,rfl,p,?_⟩;rcases b with b|⟨a,s,rfl,f,b⟩
 .exact .inl b
 exact .inr ⟨a,s,rfl,lt_of_lt_of_le f q,λr t n=>m _ _ _ f (b r t n)⟩
theorem Zw(h:p:=by
 obtain⟨a,cap,rfl,hl,hx⟩:=h
 refine⟨a,cap,rfl,hl,?_⟩
 rcases hx with hx|⟨b,off,rfl,hb,hx⟩
 .exact .inl hx
 exact .inr ⟨b,off,rfl,lt_of_lt_of_le hb hs,λi x hi=>⟨hc _ _ _ (hx i x hi).1,hc _ _ _ (hx i x hi).2.1,hc _ _ _ (hx i x hi).2.2.1,hc _ _ _ (hx i x hi).2.2.2⟩⟩):p:=h
theorem um{c d:World}{g l}(h:bO c g l)(hc:∀b o f,c.cell? ⟨b,o,none⟩=some f->d.cell? ⟨b,o,none⟩=some f)(hs:c.heap.size<=d.heap.size):bO d g l:=by
 exact Zw
theorem xq{b:World}{n j m h w l}(q:bO b n l)(r:Boxed b h w j)(u:∀k,j≠ .int .i64 k):bO (b.setCell h m) n l:=by
 have e:∀c i k,b.cell? ⟨c,i,none⟩=some (.int .i64 k)->(b.setCell h m).cell? ⟨c,i,none⟩=some (.int .i64 k):=λc i k hk=>by
  rw[World.cell?_setCell_other b _ _ _ (λe=>by rw[<-e,r.cell] at hk;exact u k Rq)];exact hk
 obtain⟨o,p,rfl,t,a⟩:=q;refine⟨o,p,rfl,t,?_⟩;rcases a with a|⟨c,v,rfl,s,a⟩
 .exact .inl a
 exact .inr ⟨c,v,rfl,by rw[cF];exact s,λf g d=>⟨e _ _ _ (a f g d).1,e _ _ _ (a f g d).2.1,e _ _ _ (a f g d).2.2.1,e _ _ _ (a f g d).2.2.2⟩⟩
theorem xr{d a}{b f:World}(c:Below b b f)(j:d<=b.heap.size)(g:d<=a)(l m):ag d (λk=>k=a\/k=a+1) b ((f.setCell a l).setCell ⟨a+1,0,none⟩ m):=by
 refine⟨((c.mono j).setCell (p:=⟨a,0,none⟩) g _).setCell (p:=⟨a+1,0,none⟩) (le_trans g (Nat.le_succ _)) _,by rw[cF,cF];exact c.size,λk n i h _=>?_⟩;rw[kY (λe=>i (.inr e.symm)),kY (λe=>i (.inl e.symm))];exact(c.block k (Array.getElem?_eq_some_iff.1 h).1).trans h
theorem Cj{a b:World}(c:Below a a b):KeepsOthers a b:=⟨c.size,λk _ d _=>(c.block k (Array.getElem?_eq_some_iff.1 d).1).trans d⟩
theorem xw{a b:World}{g f}(j:gw a g)(l:a.grownBy b f)(n:∀d,f=some d->∃o:Obj,a.heap[d]? =some o/\o.isCells=false):gw b g:=λi m=>by
 obtain⟨k,h,c⟩:=j i m
 exact⟨k,h,(grownBy_keeps_cells l n c rfl).trans c⟩
theorem Cl{A a:World}{c}(f:gw A c)(j:aq (λ_=>False) A a):gw a c:=λb i=>by
 obtain⟨g,d,h⟩:=f b i
 exact⟨g,d,j.same b _ (λk=>k) h rfl⟩
theorem xt{i n j l s}{k:Ending->World->Prop}(g):∀(c:List Nat) (a:World),c.Nodup->(∀D∈c,g<=D/\a.heap[D]? =some (.deferred (some [])))-> (∀d,Below g a d->aq (λ_=>False) a d->LeavesIn i n j l s k [] .returning d)->LeavesInM i n j l s k (c.map lI) .returning a
 |[],a,_,_,f=>f a (Below.refl _ _) ⟨le_refl _,λ_ _ _ f _=>f⟩
 |D::c,a,x,hD,f=>by
  obtain⟨h1,t⟩:=List.nodup_cons.1 x
  have hD0:=hD D Q1
  have v:Below g a (a.putObj D (.deferred none)):=(Below.refl g a).grown (grownBy_putObj' a D _) T9 (λh e=>by cases e;exact hD0.1)
  have o:=aq.b (λ_=>False) (.deferred none) hD0.2 rfl
  refine⟨Q1,.inl ⟨D,a.putObj D (.deferred none),rfl,run_takeDeferred hD0.2,xt g c _ t (λE hE=>?_) λd u m=>?_⟩⟩
  .exact aas
  exact f d (v.trans u) ⟨le_trans o.size m.size,λh r q w p=>m.same h r q (o.same h r q w p) p⟩
theorem Wb(h:p:=by rw[<-hW1];exact((Below.refl _ _).alloc (le_refl _) _).alloc (by simp) _):p:=h
theorem We(h:p:=by rw[<-hW3];simp):p:=h
theorem Wf(h:p:=by rw[<-hW3];simp[go_sem]):p:=h
theorem Wg(h:p:=by rw[hW7];exact(((Below.refl _ _).alloc (le_refl _) _).alloc (by simp) _).alloc (by simp;omega) _):p:=h
theorem Wh(h:p:=by rw[hW7];simp[go_sem]):p:=h
theorem Wi(h:p:=by have:=hx.but.size;have:=b37.size;omega):p:=h
theorem Wj(h:p:=by have:=(Array.getElem?_eq_some_iff.1 h).1;omega):p:=h
theorem Wk(h:p:=by cases e;omega):p:=h
theorem Wl(h:p:=by rw[HE.out.1,HE.out.2.2]):p:=h
theorem abp(h:p:=by
 rw[mem_singleton.1 hD']
 exact⟨Q0,hK⟩):p:=h
theorem J6(k:World)(aG aT aN d g f)(s:Int)(bd:bR k aG d)(B:ck k aT g)(bc:bO k aN f)(aB:dU d):Calls prog 116 #[.agg #[aG,aT],aN,s] k λe N=>∃E,e=.returned (.tuple #[E,.bool (cM d g f s),.int .i64 (bS d g f)])/\bO N E (bV d g f s)/\fW k E/\gw N E/\Below k k N:=by
 have al:=hid_ λj (hx:Below k k j)=>an_ (bR.a hx bd) (an_ (ck.a hx B) (bO.a hx bc));have a0:Hid (bR k aG d/\ck k aT g/\bO k aN f):=⟨bd,B,bc⟩;have am:=hid_ (λj hx=>pS j aG aT d g (al j hx).1 (al j hx).2.1 aB);have aJ:=hid_ (λj hx=>nR j aG aN d f (al j hx).1 (al j hx).2.2);obtain⟨U,V,rfl,_⟩:=bd;obtain⟨aj,ak,rfl,_⟩:=B;obtain⟨ar,au,rfl,_⟩:=bc;obtain⟨O,hW1⟩:=ex_ ((k.alloc (.cells #[.slice U d V,.slice aj g ak] 30)).alloc (.cells #[s] 3));have Q:Below k k O:=Wb;have cJ:O.heap.size=k.heap.size+1+1:=UA;have aQ:O.cell? ⟨k,0,none⟩=some (.slice U d V):=UB;have aR:O.cell? ⟨k,1,none⟩=some (.slice aj g ak):=UB;have aS:O.cell? ⟨k.heap.size+1,0,none⟩=some (.int .i64 s):=UB;by_cases hpe:bP d g=0
 .have a2:=hid_ (iq hpe);have af:=hid_ λj (hx:Below O O j)=>an_ ((bF hx Q0).trans aQ) (an_ ((bF hx Q0).trans aR) ((bF hx Q0).trans aS));by_cases ah:bW d f=0
  .have HE:Hid (bS d g f=0/\bV d g f s=cA (bJ d) f (cK d (ce (bM d g) s) f g)/\cM d g f s=gh (bJ d) f (cK d (ce (bM d g) s) f g)):=by
    have e:bS d g f=0:=by rw[bS,if_neg Ui,ah]
    exact⟨e,by rw[bV,if_neg Sj],by rw[cM,if_neg Sj]⟩
   have X:Hid (bP d g=0/\bW d f=0/\dU d):=⟨hpe,ah,aB⟩;rw[hpe] at am;rw[ah] at aJ;clear hpe ah;refine(callsIn_wide (n:=6)).1 (callsIn_of_wp_marks func116 rfl trivial (wpIn_wide.2 ?_) rfl);simp only[ntmps116,size_toArray,length_cons,length_nil,reduceAdd,reduceSub,replicate_succ,replicate_zero,push_toArray,append_toArray,nil_append,cons_append];go_wp2_with fail;refine(am _ Q).mono ?_;rintro e C ⟨⟨aH,rfl,_,aa⟩,hb2⟩;have aa:=aa _ a2.out.1 (by first|rfl|trivial);obtain⟨an,hW3⟩:=ex_ (C.alloc (.cells #[aH] 68));have aL:Below O O an:=by rw[<-hW3];exact hb2.alloc hb2.size _
   have cc:=bt_ Q aL;have cL:an.heap.size=C.heap.size+1:=We;have bB:an.cell? ⟨C,0,none⟩=some aH:=Wf;have bl:Hid (dD an aH (bM d g)):=by rw[<-hW3];exact dD.a (bH _ _) aa
   have cv:=hb2.size;obtain⟨aV,aW,rfl,_⟩:=aa;obtain⟨R,w,S⟩:=af _ aL;clear hW1 aQ aR aS hb2 am;go_wp2_with fail;clear hW3;refine mo_ (aJ _ cc) λaK Z=>?_;have aM:=bt_ aL Z;have aP:=bt_ Q aM;clear R w S aJ;obtain⟨R,w,S⟩:=af _ aM;go_wp2_with fail;refine(J5 aK _ f (al _ aP).2.2 (by have:=mB X.out.2.1;omega)).mono ?_;rintro e i ⟨cm,rfl,bv,bt,ca,aA⟩;obtain⟨ab,ae,ac,rfl⟩:∃q r m,cm=.slice q r m:=by obtain⟨⟨q,r,m,e,_⟩,_⟩:=bt;exact⟨q,r,m,e⟩
   have bn:=bt_ aM aA;have cB:k.heap.size<i.heap.size:=by have:=bn.size;omega
   clear R w S;obtain⟨R,w,S⟩:=af _ bn;go_wp2_with fail;obtain⟨z,Y⟩:=ex_ ((i.alloc (.cells #[.slice ab ae ac] 65)).alloc (.cells #[.bool false] 4));have a6:Below aK aK z:=by rw[<-Y];exact(aA.alloc aA.size _).alloc (by have:=aA.size;simp;omega) _
   have aU:z.heap.size=i.heap.size+1+1:=by rw[<-Y];simp
   have a3:Boxed z i 65 (.slice ab ae ac):=by rw[<-Y];exact(Below.heap_alloc _ _ _ Q1).trans (alloc_heap_new i _)
   have a4:Boxed z (i.heap.size+1) 4 (.bool false):=by
    rw[<-Y];have:=alloc_heap_new (i.alloc (.cells #[.slice ab ae ac] 65)) (.cells #[.bool false] 4);rwa[size_alloc] at this
   have bi:Hid (bO z (.slice ab ae ac) f):=by rw[<-Y];exact bO.a (((Below.refl _ _).alloc (le_refl _) _).alloc Q1 _) bv
   have bK:Hid (gw z (.slice ab ae ac)):=by rw[<-Y];exact ca.a (((Below.refl _ _).alloc (le_refl _) _).alloc Q1 _)
   have a5:=bt_ aM a6;have cE:=bt_ Q a5;rw[Y];clear Y R w S bv;obtain⟨R,w,S⟩:=af _ a5;refine mo_ (Kb z U d V aj g ak ar f au _ _) λA hW7=>?_;have ap:Below z z A:=Wg;have cN:A.heap.size=z.heap.size+1+1+1:=by rw[hW7];simp
   have ch:A.cell? ⟨z,0,none⟩=some (.slice U d V):=Wh;have ci:A.cell? ⟨z,1,none⟩=some (.slice aj g ak):=Wh;have cj:A.cell? ⟨z.heap.size+1+1,0,none⟩=some (.func (.func 154) #[] #[.pointer (some ⟨C,0,none⟩),.pointer (some ⟨k.heap.size+1,0,none⟩)]):=Wh;have cl:A.cell? ⟨z.heap.size+1,0,none⟩=some (.slice ar f au):=Wh;clear hW7 R w S;go_wp2_with fail;have bo:=bt_ a5 ap;have bz:=bt_ Q bo;have b37:=(Z.trans (a6.mono Z.size)).trans (ap.mono (Z.trans (a6.mono Z.size)).size);have cz:=le_trans Z.size aA.size;have bU:Boxed A i 65 (.slice ab ae ac):=(ap.block _ a3.lt).trans a3;have bX:Boxed A (i.heap.size+1) 4 (.bool false):=(ap.block _ a4.lt).trans a4;have bD:=hid_ (bO.a ap bi.out);have bL:=hid_ (bK.out.a ap);have bk:=hid_ λj (hx:ag k.heap.size (λo=>o=i.heap.size\/o=i.heap.size+1) A j)=>an_ (hx.but.a Q0 (af _ bo).1) (bz.trans hx.below)
   have bN:Hid (∀(j:World) (D:Nat) (aB:D<g.length) (a9:Option Addr) (ba:Nat) (a7:Option Addr) (a8:Nat),ag k.heap.size (λo=>o=i.heap.size\/o=i.heap.size+1) A j->Calls prog 154 (#[.agg #[.int .i64 g[D].head.pred,.slice a9 g[D].head.args.length ba,.int .i64 g[D].src,.int .i64 g[D].n,.slice a7 g[D].body.length a8]]++#[.pointer (some ⟨C,0,none⟩),.pointer (some ⟨k.heap.size+1,0,none⟩)]) j λe N=>e=.returned (.bool (ce (bM d g) s g[D]))/\Below j j N):=λj D aB a9 ba a7 a8 hx=>by
    obtain⟨o,aw,e⟩:=fd.1 (gP (f_ (eU X.out.1 _ (getElem_mem aB))).1).1;have bb:=λu be E (J:u<an.heap.size)(aD:an.cell? ⟨u,be,none⟩=some E)=>hx.but.a Q0 ((bF b37 J).trans aD);have h:=J9 j C.heap.size (k.heap.size+1) o _ (bM d g) s g[D] a9 g[D].head.args.length ba a7 g[D].body.length a8 e (by rw[a2.out.2];exact aw) (bb _ _ _ Q0 bB) (bb _ _ _ Q0 (af _ aL).2.2) (J8 bl bb (le_trans b37.size hx.but.size)) Wi Wi;exact h
   have bm:Hid (∀j∈cK d (ce (bM d g) s) f g,cw d j=true):=mL (eU X.out.1) X.out.2.1
   have bC:Hid (∀j av q r m p,bO j (.slice q r m) av->eQ (.slice q r m)->bW d av=0->cw d p=true->Below k k j->Calls prog 157 #[.slice U d V,.slice q r m,.agg #[p.pred,p.a,p.b,p.val]] j λe N=>∃x K G,e=.returned (.tuple #[.slice x K G,.bool (dR (bJ d) p av),.int .i64 0])/\bO N (.slice x K G) (cy (bJ d) p av)/\(fW k (.slice x K G)/\gw N (.slice x K G))/\Below j j N):=λj av q r m p aO az bZ b0 hx=>by
    have h:=zu j _ _ d av p.pred p.a p.b p.val (al j hx).1 aO az;rw[xo bZ b0] at h;refine h.mono ?_;rintro e N ⟨E,b4,b5,bu,b9,J⟩;obtain⟨⟨x,K,G,aD,_⟩,_⟩:=id bu;subst aD;exact⟨x,K,G,b4,b5,⟨bu.a hx.size,b9⟩,J⟩
   clear a3 a4 bi bl bB
   refine(wpIn_wide (n:=6)).1 (wpIn_rangeFunc_ownH (α:=kI (cK d (ce (bM d g) s) f g)) rfl Q0 (gf:=197) (lb:=#[.pointer (some ⟨i.heap.size+1+1,0,none⟩),.pointer (some ⟨i.heap.size+1+1+1+1,0,none⟩),.pointer (some ⟨i.heap.size+1+1+1,0,none⟩)]) rfl trivial (enters_of func197 SI rfl)
    (Ka (6-1) Q0 (i.heap.size+1+1) (i.heap.size+1+1+1+1) (i.heap.size+1+1+1) k (λo=>o=i.heap.size\/o=i.heap.size+1) _ _ _ 154 _ d g f (ce (bM d g) s) A Q0 Q0 Q0 (λo aw=>Q0) Q0 (by rw[<-aU];exact ch) (by rw[<-aU];exact ci) (by rw[<-aU];exact cj) (by rw[<-aU];exact cl) k rfl bz a0.out.1 a0.out.2.1 a0.out.2.2 X.out.2.2 X.out.1 X.out.2.1 (enters_of func154 SI rfl) bN.out)
    ag.a (λl o be bA aw h b8 _=>⟨(Below.refl _ l).grown (grownBy_putObj' l o bA) Wj (λcD e=>Wk),aq.b _ bA h b8⟩) (Below.refl _ _) (λ_=>rfl)
    (λt l=>∃q r m,Boxed l i 65 (.slice q r m)/\bO l (.slice q r m) (cA (bJ d) f (eD t))/\(fW k (.slice q r m)/\gw l (.slice q r m))/\Boxed l (i.heap.size+1) 4 (.bool (gh (bJ d) f (eD t)))/\ag k.heap.size (λo=>o=i.heap.size\/o=i.heap.size+1) A l)
    (λ_ _ _=>False)
    (λt aI aY bf aC M B=>by
     obtain⟨q,r,m,H,L,F,T,I⟩:=aC
     exact⟨q,r,m,boxed_own _ _ (fun(_:Unit)=>_) () aI aY bf H M (λy e=>(B y e).2),rD L M (λy e=>(B y e).2),⟨F.1,xw F.2 M (λy e=>(B y e).2)⟩,boxed_own _ _ (fun(_:Unit)=>_) () aI aY bf T M (λy e=>(B y e).2),uq I M Q0 B⟩)
    (λ_ _ _ _ _ aC _ _=>aC)
    ⟨ab,ae,ac,bU,bD.out,⟨bt.a aP.size,bL.out⟩,bX,ag.c _ _ _⟩
    (λj x l=>∃W,l.cell? ⟨W,0,none⟩=some (.int .i64 j.1.pred)/\l.cell? ⟨W,1,none⟩=some (.int .i64 j.1.a)/\l.cell? ⟨W,2,none⟩=some (.int .i64 j.1.b)/\l.cell? ⟨W,3,none⟩=some (.int .i64 j.1.val)/\x={tmps:=#[.agg #[.slice U d V,.slice aj g ak],.slice ar f au,.int .i64 s,.pointer (some ⟨k,0,none⟩),undef,.pointer (some ⟨k.heap.size+1,0,none⟩),.slice none 0 0,.bool false,.int .i64 0,.pointer (some ⟨C,0,none⟩),.int .i64 0,.int .i64 0,.func (.func 154) #[] #[.pointer (some ⟨C,0,none⟩),.pointer (some ⟨k.heap.size+1,0,none⟩)],.pointer (some ⟨i,0,none⟩),.pointer (some ⟨i.heap.size+1,0,none⟩),.pointer (some ⟨W,0,none⟩),undef,undef,undef,.tuple #[.slice aV (bM d g).length aW,.int .i64 0],.agg #[.slice U d V,.slice aj g ak],.tuple #[.slice aV (bM d g).length aW,.int .i64 0],.slice aV (bM d g).length aW,.int .i64 0,.int .i64 0,.bool false,undef,.pointer (some ⟨k,0,none⟩),.slice U d V,.slice ar f au,.int .i64 0,.int .i64 0,.bool false,undef,.func (.func 154) #[] #[.pointer (some ⟨C,0,none⟩),.pointer (some ⟨k.heap.size+1,0,none⟩)],.slice ar f au,.slice ab ae ac,.agg #[.slice U d V,.slice aj g ak],.slice ar f au,.func (.func 154) #[] #[.pointer (some ⟨C,0,none⟩),.pointer (some ⟨k.heap.size+1,0,none⟩)],.func (.func 197) #[] #[.pointer (some ⟨i.heap.size+1+1,0,none⟩),.pointer (some ⟨i.heap.size+1+1+1+1,0,none⟩),.pointer (some ⟨i.heap.size+1+1+1,0,none⟩)],.agg #[j.1.pred,j.1.a,j.1.b,j.1.val],undef,undef,undef,undef,undef,undef,undef,undef,undef,undef,undef,undef,undef,undef,undef,undef],defers:=[]})
    (λj x _ aI aY bf aC M B=>by
     obtain⟨W,bY,H,L,F,rfl⟩:=aC
     exact⟨W,cell_kept bY M (λy e=>(B y e).2),cell_kept H M (λy e=>(B y e).2),cell_kept L M (λy e=>(B y e).2),cell_kept F M (λy e=>(B y e).2),rfl⟩) ?assign ?body ?done ?stop)
   case assign=>
    rintro cf t j l cp ⟨q,r,m,H,L,F,T,I⟩ hK;dsimp only[oZ] at hK⊢;gi_wp2;refine hK _ _ ((KeepsOthers.alloc _ _).from _) (ag.b (bH _ _) (le_trans Q0 I.but.size)) ⟨q,r,m,H.alloc _,bO.a (bH _ _) L,⟨F.1,F.2.a (bH _ _)⟩,T.alloc _,I.a (ag.b (bH _ _) (le_trans Q0 I.but.size))⟩ ⟨l,?_,?_,?_,?_,rfl⟩;all_goals simp[go_sem]
   case body=>
    rintro cf t ⟨p,bw⟩ x l ct _ ⟨q,r,m,H,L,F,T,I⟩ ⟨W,bp,bq,br,bs,rfl⟩ _;dsimp only at bp bq br bs⊢;have b6:=bm p bw
    have bE:Hid (bW d (cA (bJ d) f (eD t))=0):=lK X.out.2.1 λj hx=>by
     obtain⟨cn,_,rfl⟩:=mem_map.1 hx;exact bm _ cn.2
    have bG:Hid (eD (t++[(⟨p,bw⟩:kI (cK d (ce (bM d g) s) f g))])=eD t++[p]):=rE _ _;obtain⟨cg,cd⟩:=bk l I;have bg:=hid_ (bC l _ q r m p L F.1.1 bE b6 cd);have bx:=H.cell;have bh:Hid (∀u:Bool,u=gh (bJ d) f (eD t++[p])↔u=(gh (bJ d) f (eD t)||dR (bJ d) p (cA (bJ d) f (eD t)))):=λu=>by rw[xp]
    have bj:Hid (cA (bJ d) f (eD t++[p])=cy (bJ d) p (cA (bJ d) f (eD t))):=rC _ _ _ _;generalize gh (bJ d) f (eD t)=ay at*;generalize dR (bJ d) p (cA (bJ d) f (eD t))=ad at*;gi_wp2_with fail;refine⟨trivial,CallsIn.mono (callsIn_wide.2 bg.out) ?_⟩;rintro cr P ⟨ao,ax,w,rfl,aO,az,J⟩;have aE:Boxed P i 65 (.slice q r m):=(J.block _ H.lt).trans H;have aF:Boxed P (i.heap.size+1) 4 (.bool ay):=(J.block _ T.lt).trans T;have cF:=aE.cell;have cG:=aE.frozen;have cH:=aF.cell;have cI:=aF.frozen;have a1:Hid (∀E aX,KeepsFrom A.heap.size l ((P.setCell ⟨i,0,none⟩ E).setCell ⟨i.heap.size+1,0,none⟩ aX)/\ag k.heap.size (λo=>o=i.heap.size\/o=i.heap.size+1) l ((P.setCell ⟨i,0,none⟩ E).setCell ⟨i.heap.size+1,0,none⟩ aX)):=λE aX=>⟨((Cj J).trans ((KeepsOthers.setCell _ _ _).trans (KeepsOthers.setCell _ _ _))).from _,xr J (le_trans Q0 I.but.size) Q0 E aX⟩
    have bI:Hid (∀u:Bool,u=(ay||ad)->∃x K G,Boxed ((P.setCell ⟨i,0,none⟩ (.slice ao ax w)).setCell ⟨i.heap.size+1,0,none⟩ (.bool u)) i 65 (.slice x K G)/\bO ((P.setCell ⟨i,0,none⟩ (.slice ao ax w)).setCell ⟨i.heap.size+1,0,none⟩ (.bool u)) (.slice x K G) (cA (bJ d) f (eD t++[p]))/\(fW k (.slice x K G)/\gw ((P.setCell ⟨i,0,none⟩ (.slice ao ax w)).setCell ⟨i.heap.size+1,0,none⟩ (.bool u)) (.slice x K G))/\Boxed ((P.setCell ⟨i,0,none⟩ (.slice ao ax w)).setCell ⟨i.heap.size+1,0,none⟩ (.bool u)) (i.heap.size+1) 4 (.bool (gh (bJ d) f (eD t++[p])))/\ag k.heap.size (λo=>o=i.heap.size\/o=i.heap.size+1) A ((P.setCell ⟨i,0,none⟩ (.slice ao ax w)).setCell ⟨i.heap.size+1,0,none⟩ (.bool u))):=λu b3=>by
     refine⟨ao,ax,w,(aE.set _).other Q0 _,?_,⟨az.1,(az.2.b _ _ _).b _ _ _⟩,?_,I.a (a1 _ _).2⟩
     .rw[bj.out];exact xq (xq aO aE (λo e=>T8)) (aF.other Q0 _) (λo e=>T8)
     rw[<-(bh u).2 b3];exact(aF.other Q0 _).set _
    clear bp bq br bs cg bx bg aO az aE aF bj bh;cases ay<;>cases ad
    all_goals gi_wp2_with fail
    all_goals exact⟨(a1 _ _).1,(a1 _ _).2,by dsimp only;rw[bG.out];exact bI _ rfl⟩
   case done=>
    rintro aZ cO l b1 b2 ⟨q,r,m,H,L,F,T,I⟩ hK;rw[b2] at L T;have bx:=H.cell;have cC:=T.cell;have bQ:=hid_ L;have bT:=hid_ ((bk l I).2);generalize gh (bJ d) f (cK d (ce (bM d g) s) f g)=ay at*;go_wp2_with fail;go_quiet (fail);go_wp2_with fail;show LeavesInM _ _ _ _ _ _ ([aZ].map lI) _ _;refine xt k.heap.size [aZ] _ Q1 (λco hD'=>?_) λcq J aw=>?_
    .exact abp
    refine⟨.tuple #[.slice q r m,.bool ay,.int .i64 0],by simp[results,f116,go_sem],?_⟩;exact⟨.slice q r m,Wl,by rw[HE.out.2.1];exact um bQ (λu be E aD=>aw.a (λj=>j) aD) J.size,F.1,Cl (A:=l.drewN nq) F.2 aw,Below.trans (b:=l.drewN nq) (bT.out.trans ⟨rfl,rfl,rfl,le_refl _,λ_ _=>rfl⟩) J⟩
   intro aZ m t l b1 _ b7 hK;exact b7.elim
  have HE:Hid (bS d g f=bW d f/\bV d g f s=[]/\cM d g f s=false):=by
   have e:bS d g f=bW d f:=by rw[bS,if_neg Ui]
   exact⟨e,by rw[bV,if_pos (by rw[e];exact ah)],by rw[cM,if_pos (by rw[e];exact ah)]⟩
  rw[hpe] at am;have cs:(bW d f==0)=false:=by simpa using ah
  go_enter func116,ntmps116;go_wp2_with fail;refine(am _ Q).mono ?_;rintro e C ⟨⟨aH,rfl,_,aa⟩,hb2⟩;have aa:=aa _ a2.out.1 (by first|rfl|trivial);obtain⟨aV,aW,rfl,_⟩:=aa;have cx:k.heap.size<C.heap.size:=Ud;clear hW1 aQ aR aS;obtain⟨R,w,S⟩:=af _ hb2;have ai:=bt_ Q hb2;go_wp2_with fail;refine mo_ (aJ _ (ai.alloc ai.size _)) λaK Z=>?_;have aP:=ai.trans (((bH _ _).trans (Z.mono Q1)).mono ai.size);clear R w S;go_wp2_with fail;refine bodyPost_ret (v:=.tuple #[.slice none 0 0,.bool false,.int .i64 (bW d f)]) (by simp[results,results116,go_sem]) rfl ?_;exact⟨.slice none 0 0,Wl,by rw[HE.out.2.1];exact ie _,qW _,qZ _,aP⟩
 have HE:Hid (bS d g f=bP d g/\bV d g f s=[]/\cM d g f s=false):=by
  have e:bS d g f=bP d g:=by rw[bS,if_pos hpe]
  exact⟨e,by rw[bV,if_pos (by rw[e];exact hpe)],by rw[cM,if_pos (by rw[e];exact hpe)]⟩
 have cu:(bP d g==0)=false:=SD;go_enter func116,ntmps116;go_wp2_with fail;refine(am _ Q).mono ?_;rintro e C ⟨⟨aH,rfl,cb,_⟩,hb2⟩;obtain rfl:=cb hpe;have ai:=bt_ Q hb2;clear hW1 aQ aR aS;go_wp2_with fail;refine bodyPost_ret (v:=.tuple #[.slice none 0 0,.bool false,.int .i64 (bP d g)]) (by simp[results,results116,go_sem]) rfl ?_;exact⟨.slice none 0 0,Wl,by rw[HE.out.2.1];exact ie _,qW _,qZ _,ai.alloc ai.size _⟩
attribute [local go_sem] semAt_some
theorem uj{b f d}(a:bW b f=0)(c:cw b d=true):cy (bJ b) d f=f↔kX (bJ b) f d=true:=by
 constructor
 .intro g;have:=z6 (cG a) (iC c);rw[g,oh] at this;exact this
 intro g;have h:dL (bJ b) [d] f=true:=by rw[oh];exact g
 exact tx (cG (nz a c)) (cG a) (vQ (cG a) (cG a) (iC c) (v7 (cG a)) h) (vZ (cG a) (iC c))
theorem Cg{b f a}(d:bW b f=0)(h:cw b a=true):dR (bJ b) a f= !kX (bJ b) f a:=by
 have g:=qO (x:=a) (cG d);cases c:kX (bJ b) f a
 .have j:cy (bJ b) a f≠f:=λe=>by rw[(uj d h).1 e] at c;cases c
  rw[g.2 j];rfl
 have e:=(uj d h).2 c;cases i:dR (bJ b) a f
 .rfl
 exact absurd e (g.1 i)
theorem pZ{b}:∀{d f:List Fct},bW b f=0->(∀x∈d,cw b x=true)->dL (bJ b) f (cA (bJ b) f d)=true
 |[],f,a,_=>v7 (cG a)
 |x::d,f,a,h=>by
  rw[cA]
  have c:=h x Q1
  have i:∀g∈d,cw b g=true:=λg hy=>h g Rn
  exact q_ (cG a) (cG (nz a c)) (cG (lK (nz a c) i)) (vZ (cG a) (iC c)) (pZ (nz a c) i)
theorem ul{a}:∀{b f:List Fct},bW a f=0->(∀x∈b,cw a x=true)->gh (bJ a) f b= !dL (bJ a) b f
 |[],f,_,_=>rfl
 |x::b,f,c,g=>by
  have h:=g x Q1
  have j:∀d∈b,cw a d=true:=λd hy=>g d Rn
  rw[gh,Cg c h]
  have e:dL (bJ a) (x::b) f=(kX (bJ a) f x&&dL (bJ a) b f):=by unfold dL;rw[all_cons]
  rw[e]
  cases i:kX (bJ a) f x
  .simp
  rw[(uj c h).2 i,ul c j]
  simp
theorem Cf{a}:∀{b f:List Fct},bW a f=0->(∀x∈b,cw a x=true)->dL (bJ a) b f=true->cA (bJ a) f b=f
 |[],f,_,_,_=>rfl
 |x::b,f,d,h,c=>by
  have g:kX (bJ a) f x=true/\dL (bJ a) b f=true:=by unfold dL at c⊢;rw[all_cons,Bool.and_eq_true] at c;exact c
  rw[cA,(uj d (h x Q1)).2 g.1]
  exact Cf d (λi hy=>h i Rn) g.2
theorem rG{a}:∀{b f:List Fct},bW a f=0->(∀x∈b,cw a x=true)->dL (bJ a) b (cA (bJ a) f b)=true
 |[],f,_,_=>rfl
 |x::b,f,d,j=>by
  have g:=j x Q1
  have h:∀i∈b,cw a i=true:=λi hy=>j i Rn
  have c:=nz d g
  have e:dL (bJ a) (x::b) (cA (bJ a) f (x::b))=(kX (bJ a) (cA (bJ a) f (x::b)) x&&dL (bJ a) b (cA (bJ a) f (x::b))):=by unfold dL;rw[all_cons]
  rw[e,cA,Bool.and_eq_true]
  refine⟨?_,rG c h⟩
  rw[<-oh]
  exact q_ (cG (ut d g)) (cG c) (cG (lK c h)) (z6 (cG d) (iC g)) (pZ c h)
theorem J4{a b f}(c:bW a f=0)(d:∀h∈b,cw a h=true):gh (bJ a) f b= !decide (f=cA (bJ a) f b):=by
 rw[ul c d];cases g:dL (bJ a) b f
 .by_cases e:f=cA (bJ a) f b
  .have:=rG c d;rw[<-e,g] at this;cases this
  rw[decide_eq_false e]
 rw[decide_eq_true (Cf c d g).symm]
def kJ(L:List Nat)(s:Int)(f:List Fct):List Fct:=f.filter λx=> !decide ((bX L x.pred.toNat:Int)=s)
def uo(L:List Nat)(s:Int):Bool:=L.any λt=>decide ((t:Int)=s)
theorem xu{d b s a}(i:cw d a=true)(c:(bX b a.pred.toNat:Int)=s):∀{f:List Fct},(∀y∈f,aG d (bJ d) y)->kJ b s (cy (bJ d) a f)=kJ b s f
 |[],_=>by simp[cy,kJ,c]
 |y::f,h=>by
  have l:=h y Q1
  rw[cy]
  by_cases e:bL y=bL a
  .rw[if_pos e]
   have k:=(pF l (iC i) e).1
   unfold kJ
   rw[filter_cons,filter_cons]
   have g:(!decide ((bX b y.pred.toNat:Int)=s))=false:=by rw[k,c];simp
   simp only[g]
   rfl
  rw[if_neg e]
  by_cases j:bL a<bL y
  .rw[if_pos j]
   unfold kJ
   rw[filter_cons]
   have g:(!decide ((bX b a.pred.toNat:Int)=s))=false:=by rw[c];simp
   rw[g]
   rfl
  rw[if_neg j]
  have ih:=xu i c (f:=f) (λm hz=>h m Sz)
  unfold kJ at ih⊢
  rw[filter_cons,filter_cons,ih]
theorem Ck{c b s}:∀{a f:List Fct},bW c f=0->(∀x∈a,cw c x=true)->(∀x∈a,(bX b x.pred.toNat:Int)=s)->kJ b s (cA (bJ c) f a)=kJ b s f
 |[],_,_,_,_=>rfl
 |x::a,f,g,i,h=>by
  have j:=i x Q1
  rw[cA,Ck (nz g j) (λd hy=>i d Rn) (λd hy=>h d Rn)]
  exact xu j (h x Q1) (cG g).fine
theorem Kd{d b s f g}:∀c∈cK d (ce b s) f g,(bX b c.pred.toNat:Int)=s:=λc a=>by
 obtain⟨i,h,a⟩:=mem_flatMap.1 a
 split at a
 .rename_i hS
  obtain⟨j,_,rfl⟩:=mem_map.1 a
  unfold ce at hS
  exact of_decide_eq_true hS
 cases a
theorem mj{a b f}(s)(h:bS a b f=0):bP a b=0/\bW a f=0/\bW a (bV a b f s)=0/\kJ (bM a b) s (bV a b f s)=kJ (bM a b) s f/\(uo (bM a b) s|| !cM a b f s)=true:=by
 have d:=h;rw[bS] at d;split at d
 .contradiction
 rename_i h1;have g:=not_not.1 h1;have j:=eU g;have k:=mL (S:=ce (bM a b) s) j d;rw[bV,if_neg TN,cM,if_neg TN];refine⟨g,d,lK d k,Ck d k Kd,?_⟩;cases o:uo (bM a b) s
 .have m:cK a (ce (bM a b) s) f b=[]:=by
   unfold cK;rw[List.flatMap_eq_nil_iff];intro p n;rw[if_neg];intro c;unfold ce at c;have c:=of_decide_eq_true c;obtain⟨l,q,e⟩:=fd.1 (gP (f_ (j p n)).1).1;rw[e,toNat_natCast] at c;have r:=(iq g).2;have i:l<(bM a b).length:=Q0
   have:uo (bM a b) s=true:=by
    unfold uo;rw[any_eq_true];refine⟨(bM a b)[l],getElem_mem i,?_⟩;unfold bX at c;simp[i] at c;simpa using c
   rw[o] at this;cases this
  rw[m];rfl
 rfl
def kG(k v:Int):Nat:=if k=2 then(15-v).toNat else v.toNat
theorem IP{k a}(b:cp k a=0):kG k a<=15:=by
 obtain⟨_,c,d⟩:=gz b;unfold kG;split<;>omega
theorem IN{k a b}(d:cp k a=0)(f:cp k b=0)(c:kG k a=kG k b):a=b:=by
 obtain⟨_,g,h⟩:=gz d;obtain⟨_,i,j⟩:=gz f;unfold kG at c;split at c<;>omega
theorem IQ{k b c}(f:cp k b=0)(g:cp k c=0)(a:fF k b c):kG k b<=kG k c:=by
 obtain⟨n,h,i⟩:=gz f;obtain⟨_,j,l⟩:=gz g;unfold fF at a;rcases n with rfl|rfl|rfl|rfl
 .rw[wG f,wG g];exact le_refl _
 .rw[pM,jI] at a;show b.toNat<=c.toNat;split at a<;>omega
 .rw[pN,jJ] at a;show(15-b).toNat<=(15-c).toNat;split at a<;>omega
 rw[pL] at a;obtain⟨d,p,rfl⟩:=mJ h i;obtain⟨m,o,rfl⟩:=mJ j l;rw[ns d m p o] at a;have q:=by exact_mod_cast a
 have:d<=d|||m:=Nat.left_le_or;show(d:Int).toNat<=(m:Int).toNat;simp only[toNat_natCast];omega
def tT(k:Int):Option Int->Nat
 |none=>0
 |some v=>kG k v+1
def mf(ps:List Prd)(f:List Fct):List Nat:=(List.range 125).map fun(pl:Nat)=>tT (bJ ps ((pl:Int)/25)) (cd f (pl:Int))
def eS(ps:List Prd)(f:List Fct):Nat:=(mf ps f).sum
@[irreducible] def dM:Nat:=2000
theorem oW:dM=2000:=by unfold dM;rfl
theorem ru{a f k}(b:k<125):bX (mf a f) k=tT (bJ a ((k:Int)/25)) (cd f (k:Int)):=by
 unfold bX mf;simp[b]
theorem A8{b f k}(a:¬k<125):bX (mf b f) k=0:=by
 unfold bX mf;simp[List.getD,a]
theorem tQ(a f):(mf a f).length=125:=by simp[mf]
theorem ke{a f}(d:bW a f=0):eS a f<=dM:=by
 rw[oW]
 have b:(mf a f).sum<=(mf a f).length*16:=uG λg c=>by
  rw[tQ] at c;rw[ru c];cases e:cd f (g:Int) with
  |none=>exact zero_le _
  |some h=>
   have:=IP (iS (cG d) e);show kG _ h+1<=16;omega
 rw[tQ] at b;exact b
theorem AV{g f}(b:bW g f=0){a}(i:a<0\/125<=a):cd f a=none:=by
 cases e:cd f a with
 |none=>rfl
 |some j=>
  obtain⟨h,d,c,_⟩:=mD e;obtain⟨_,_,_,_,_,_,_⟩:=(cG b).fine h d;have:=(eR b).1;unfold bL at c;omega
theorem A6{b f d}(i:bW b f=0)(j:bW b d=0)(u:dL (bJ b) f d=true)(s:f≠d):eS b f<eS b d:=by
 have n:=(ka (cG i)).1 u
 have r:∀a:Nat,a<125->tT (bJ b ((a:Int)/25)) (cd f (a:Int))<=tT (bJ b ((a:Int)/25)) (cd d (a:Int)):=λa _=>by
  cases e:cd f (a:Int) with
  |none=>exact zero_le _
  |some o=>
   obtain⟨l,g,v⟩:=n _ _ e;rw[g];have:=IQ (iS (cG i) e) (iS (cG j) g) v;show kG _ o+1<=kG _ l+1;omega
 refine uH (by rw[tQ,tQ]) (λa=>?_) λt=>s ?_
 .by_cases c:a<125
  .rw[ru c,ru c];exact r a c
  rw[A8 c,A8 c];exact le_refl _
 refine zI (cG i) (cG j) λk=>?_;by_cases m:k<0\/125<=k
 .rw[AV i m,AV j m]
 obtain⟨a,c,rfl⟩:∃a:Nat,a<125/\k=(a:Int):=⟨k.toNat,Q0,Q0⟩;have h:bX (mf b f) a=bX (mf b d) a:=by rw[t]
 rw[ru c,ru c] at h;cases e:cd f (a:Int) with
 |none=>
  cases p:cd d (a:Int) with
  |none=>rfl
  |some l=>
   rw[e,p] at h;exact absurd h (by show¬0=kG _ l+1;omega)
 |some o=>
  obtain⟨l,g,_⟩:=n _ _ e;rw[e,g] at h;have q:=Nat.succ.inj h;rw[g,IN (iS (cG i) e) (iS (cG j) g) q]
theorem IM{f i}(h:bP f i=0):iE f=true:=by
 have a:=(gO h).1;rw[ej] at a;split at a
 .contradiction
 split at a
 .contradiction
 split at a
 .contradiction
 split at a
 .contradiction
 rename_i h3;split at a
 .contradiction
 rename_i h4;unfold iE;rw[all_eq_true];intro g d;have b:=any_eq_false.1 (Bool.eq_false_iff.2 h3) g d;have c:=any_eq_false.1 (Bool.eq_false_iff.2 h4) g d;unfold jn;simp only[Bool.not_eq_true,Bool.not_eq_false'] at b c;simp[b,c]
theorem tN{a b}(h:bP a b=0):bS a b []=0:=by
 rw[bS,if_neg TN];exact pY (gN (gO h).1).1 (IM h) (by simp[fV]) Q1
theorem jK{a b f}(s)(c:bS a b f=0):bS a b (bV a b f s)=0:=by
 obtain⟨h1,_,d,_⟩:=mj s c;rw[bS,if_neg UO,d]
theorem nv{a b f}(s)(h:bS a b f=0):dL (bJ a) f (bV a b f s)=true/\cM a b f s= !decide (f=bV a b f s):=by
 obtain⟨g,c,_⟩:=mj s h;have d:=mL (S:=ce (bM a b) s) (eU g) c;rw[bV,if_neg TN,cM,if_neg TN];exact⟨pZ c d,J4 c d⟩
theorem nY{a b f s}(c:bS a b f=0)(d:cM a b f s=true):eS a f<eS a (bV a b f s):=by
 obtain⟨_,g,h,_⟩:=mj s c;obtain⟨i,j⟩:=nv s c;refine A6 g h i λe=>?_;rw[j,decide_eq_true e] at d;cases d
def iX(ps:List Prd)(rs:List Rul)(s:Int):Nat->List Fct->List Fct
 |0,f=>f
 |n+1,f=>if cM ps rs f s then iX ps rs s n (bV ps rs f s) else f
def kH(ps:List Prd)(rs:List Rul)(s:Int):Nat->List Fct->Nat
 |0,_=>0
 |n+1,f=>if cM ps rs f s then kH ps rs s n (bV ps rs f s)+1 else 0
theorem Bd{a b s}(n):∀{f:List Fct},bS a b f=0->dM<n+eS a f->iX a b s (n+1) f=iX a b s n f/\kH a b s (n+1) f=kH a b s n f/\cM a b (iX a b s n f) s=false:=by
 induction n with
 |zero=>
  intro f h i;have:=ke (mj s h).2.1;omega
 |succ n ih=>
  intro f h i;cases d:cM a b f s
  .have e:∀c,iX a b s (c+1) f=f:=λc=>by rw[iX,d];rfl
   have g:∀c,kH a b s (c+1) f=0:=λc=>by rw[kH,d];rfl
   rw[e,e,g,g];exact⟨rfl,rfl,d⟩
  have m:=nY h d;obtain⟨j,k,l⟩:=ih (jK s h) (f:=bV a b f s) Q0;have e:∀c,iX a b s (c+1) f=iX a b s c (bV a b f s):=λc=>by rw[iX,d];rfl
  have g:∀c,kH a b s (c+1) f=kH a b s c (bV a b f s)+1:=λc=>by rw[kH,d];rfl
  rw[e,e,g,g,j,k];exact⟨rfl,rfl,l⟩
def dw(ps:List Prd)(rs:List Rul)(s:Int)(f:List Fct):List Fct:=iX ps rs s (dM+1) f
def eA(ps:List Prd)(rs:List Rul)(s:Int)(f:List Fct):Nat:=kH ps rs s (dM+1) f
theorem oV{a b s f}(c:cM a b f s=false):dw a b s f=f/\eA a b s f=0:=by
 rw[dw,eA,iX,kH,c];exact⟨rfl,rfl⟩
theorem me{a b s f}(c:bS a b f=0)(d:cM a b f s=true):dw a b s f=dw a b s (bV a b f s)/\eA a b s f=eA a b s (bV a b f s)+1:=by
 have i:=nY c d;obtain⟨g,h,_⟩:=Bd (s:=s) dM (jK s c) Q0;rw[dw,eA,iX,kH,d,dw,eA,g,h];exact⟨rfl,rfl⟩
theorem IE{a b s f}(c:bS a b f=0):cM a b (dw a b s f) s=false:=(Bd (dM+1) c Q0).2.2
theorem Be{b c s}:∀(n:Nat) {f:List Fct},bS b c f=0->bS b c (iX b c s n f)=0
 |0,_,a=>a
 |n+1,f,a=>by
  rw[iX]
  split
  .exact Be n (jK s a)
  exact a
theorem Bb{b c s}:∀(n:Nat) {f:List Fct},bS b c f=0->kH b c s n f+eS b f<=dM
 |0,f,a=>by
  have:=ke (mj s a).2.1
  rw[kH]
  omega
 |n+1,f,a=>by
  rw[kH]
  split
  .rename_i hc
   have:=Bb n (s:=s) (jK s a)
   have:=nY a hc
   omega
  have:=ke (mj s a).2.1
  omega
def cC(L:List Nat):Nat:=L.foldl (λn s=>max n (s+1)) 0
def cQ(ps:List Prd)(rs:List Rul):Nat->List Fct
 |0=>[]
 |t+1=>dw ps rs (t:Int) (cQ ps rs t)
def il(ps:List Prd)(rs:List Rul)(t:Nat):List Nat:=(List.range t).map fun(s:Nat)=>eA ps rs (s:Int) (cQ ps rs s)
def dg(ps:List Prd)(rs:List Rul):List Fct:=cQ ps rs (cC (bM ps rs))
def iW(ps:List Prd)(rs:List Rul):List Nat:=il ps rs (cC (bM ps rs))
theorem kF{a b}(c:bP a b=0):∀t,bS a b (cQ a b t)=0
 |0=>tN c
 |t+1=>Be (dM+1) (kF c t)
theorem wW(a b c):il a b (c+1)=il a b c++[eA a b (c:Int) (cQ a b c)]:=by
 unfold il;rw[List.range_succ,map_append];rfl
theorem ui{a}:∀{c f b:List Fct},bW a f=0->bW a b=0->(∀x∈c,cw a x=true)->dL (bJ a) f b=true->dL (bJ a) c b=true->dL (bJ a) (cA (bJ a) f c) b=true
 |[],_,_,_,_,_,l,_=>l
 |x::c,f,b,h,i,j,m,d=>by
  have k:=j x Q1
  have g:kX (bJ a) b x=true/\dL (bJ a) c b=true:=by unfold dL at d⊢;rw[all_cons,Bool.and_eq_true] at d;exact d
  rw[cA]
  exact ui (nz h k) i (λn hy=>j n Rn) (vQ (cG h) (cG i) (iC k) m (by rw[oh];exact g.1)) g.2
theorem ur{b:Int->Int}{d c}(f:dL b d c=true){a}(g:a∈d):dL b [a] c=true:=by
 rw[oh];exact all_eq_true.1 f a g
theorem IB{d c}(g:∀a∈c,a∈d){s:Nat->Nat}(f:kh (cI d) s):kh (cI c) s:=λe b=>by
 obtain⟨a,h,b⟩:=mem_flatMap.1 b
 exact f e (mem_flatMap.2 ⟨a,g a h,b⟩)
def gA(l:List Nat):List Value:=l.map fH
theorem AM(l:List Nat):(gA l).length=l.length*1:=by simp[gA]
theorem Iu(l a:List Nat):gA (l++a)=gA l++gA a:=by simp[gA]
theorem AN(l:List Nat):∀a∈gA l,a.oneCell'=true:=λa b=>by
 obtain⟨c,_,rfl⟩:=mem_map.1 b
 rfl
theorem IG:(prog.info? 3).map (λa=>(a.zero,a.size,a.bytes))=some (some (.int .i64 0),1,8):=SI
section
variable {P:Program}
theorem aaM(h:p:=by
 rw[hr] at hr'
 injection hr' with e1 e2
 subst e1
 exact .inr (by simpa[ownBlock] using hb.symm)):p:=h
theorem wM(f:World)(D:Nat)(g k e:TypeId)(c:TypeInfo)(u:Value)(s v:Nat)(r:P.underlying g=some (.slice e))(o:P.info? e=some c)(z:c.zero=some u)(L:c.size=s)(G:c.bytes=v)(t:Value)(n:Nat)(C:List Value)(q:f.ownsRow D e s t n C)(h:Addr)(a i:Nat)(d:List Value)(j:d.length=a*s)(p:∀A l,d[A]? =some l->f.cell? (h.add A)=some l)(E:∀l∈d,l.oneCell'=true)(F:n+a<=maxLen)(x:((n+a)+(n+a)/4+192)*v<=281474976710656)(R:0<a){B:Value}{M:World}(hr:(Builtin.append_ #[g,g] k #[t,.slice (some h) a i]).run P f=.ok B M):∀b,B.ownBlock=some b->t.ownBlock=some b\/b=f.heap.size:=by
 subst L;subst G;have T:n+a<=9223372036854775807:=by simp only[maxLen] at F;omega
 intro N hb;rcases q.2 with⟨rfl,rfl⟩|⟨b,m,w,rfl,O,J,S,Q,H,U⟩
 .have hr':=run_append_nil (P:=P) f g k e c u r o z h a i d j p Q0 Q0 (by have hb:=x;simp only[zero_add] at hb;exact le_trans (Nat.mul_le_mul_right _ Q0) hb);exact aaM
 by_cases y:n+a<=m
 .have I:n*c.size+d.length<=w.size:=by rw[j,H,<-Nat.add_mul];exact Nat.mul_le_mul_right _ y
  have hr':=run_append_room (P:=P) f g k e c r o b n m w J h a i d j p E y I;rw[hr] at hr';injection hr' with e1 e2
  subst e1;exact .inl hb
 have K:=q.cells (g:=b) rfl;have hr':=run_append_grow (P:=P) f g k e c u r o z ⟨b,0,none⟩ n m C q.1 K h a i d j p Q0 Q0 (growslice_fits_wide Q0 x);exact aaM
end
theorem IW(a:World){z:Array Oper}{A:List Oper}{o:Oper}{k:Act}{n:Exit->Act->World->Prop}(I:o.guard=none)(s B:Operand)(J:o.op=.call {callee:=.builtin .append,args:=#[s,B],argTypes:=#[68,68]})(g:Nat)(d:Value)(b:List Nat)(c:Nat)(u:a.ownsRow g 3 1 d b (gA b))(L:k.eval s=d)(f:Nat)(M:k.eval B=.slice (some ⟨f,0,none⟩) 1 1)(N:TypeId)(K:a.heap[f]? =some (.cells #[c] N))(O:b.length<=500)(H:g<=a.heap.size)(C:∀i j,j.ownsRow g 3 1 i (b++[c]).length (gA (b++[c]))->a.grownBy j d.ownBlock->(∀m,i.ownBlock=some m->d.ownBlock=some m\/m=a.heap.size)->wpList prog z n A (k.put o.dst i) j):wpList prog z n (o::A) k a:=by
 obtain⟨y,r,x,w,p⟩:=info_parts IG
 have q:∀h l,(gA [c])[h]? =some l->a.cell? ((⟨f,0,none⟩:Addr).add h)=some l:=λh l t=>by
  cases h with
  |zero=>
   obtain rfl:fH c=l:=by simpa[gA] using t
   rw[zy];simp[cell?,K,fH]
  |succ h=>simp[gA] at t
 refine wpList_plain I λ_ G=>?_;obtain⟨i,j,v,D,E,_⟩:=run_append_own_wide (P:=prog) a g 68 o.type 3 y _ 1 8 underlying68 r x w p rfl Q0 d b (gA b) u ⟨f,0,none⟩ 1 1 (gA [c]) (AM _) q (AN _) TZ Q0 H;have F:=wM a g 68 o.type 3 y _ 1 8 underlying68 r x w p d b (gA b) u ⟨f,0,none⟩ 1 1 (gA [c]) (AM _) q (AN _) TZ Q0 Q0 v;unfold Oper.wp execOp;simp only[J,resolve,invoke,builtin,Sem.run_bind,Sem.run_pure,Result.andThen_ok,List.map_toArray,map_cons,map_nil,L,M,v];exact G _ _ (C i j (by rw[length_append,Iu];exact D) E F)
theorem II{b:World}{g:Nat}{e:TypeId}{d:Value}{l:List Nat}(i:b.ownsRow g e 1 d l (gA l))(m:l.length<=140737488355328):dD b d l:=by
 obtain⟨p,j⟩:=i;rcases j with⟨rfl,hn⟩|⟨c,h,o,rfl,q,hg,r,s,t,n⟩
 .exact Z1
 refine⟨_,h,rfl,m,.inr ⟨c,0,rfl,(Array.getElem?_eq_some_iff.1 hg).1,?_⟩⟩;intro a f k;show b.cell? ⟨c,0+a*1,none⟩=some (.int .i64 (f:Int));have hz:(gA l)[a]? =some (.int .i64 (f:Int)):=by unfold gA;rw[List.getElem?_map,k];rfl
 rw[<-n] at hz
 have hj:a<l.length*1:=by
  exact Z2
 exact abj
theorem IJ(b:World)(a:Nat):b.ownsRow a 3 1 (.slice none 0 0) ([]:List Nat).length (gA []):=⟨rfl,.inl ⟨rfl,rfl⟩⟩
theorem Bi{a:List Nat}{k:Nat}(b:k<a.length):cC (a.take (k+1))=max (cC (a.take k)) (a[k]+1):=by
 unfold cC;rw[take_add_one,getElem?_eq_getElem b,List.foldl_append];rfl
theorem Wn(h:p:=by have:=l0;rwa[mul_one] at this):p:=h
theorem Z_(h:p:=by
 clear l0 hlv
 generalize L[k]=t at*
 generalize cC (L.take k)=m at*
 go_wp2_with fail
 exact⟨⟨k+1,Q0,Rv,by rw[HT.out];congr 1;omega,trivial⟩,S6⟩):p:=h
theorem wT(a:World)(h:Value)(L:List Nat)(c:dD a h L):Calls prog 94 #[h] a λe p=>e=.returned (.int .i64 ((cC L:Int)-1))/\p=a:=by
 have i:=hid_ c;obtain⟨j,l,rfl,_⟩:=c;go_enter func94,ntmps94;go_wp2_with fail;go_loopw [3,4] (λo b wr=>∃k:Nat,k<=L.length/\b=.int .i64 k/\o=.int .i64 ((cC (L.take k):Int)-1)/\wr=a) (λ_ b _=>L.length-(intOf b).toNat)
 case atStart=>exact⟨0,zero_le _,rfl,rfl,rfl⟩
 obtain⟨k,q,rfl,rfl,rfl⟩:=hrel;by_cases d:k<L.length
 .obtain⟨f,g,n,hlv,s,l0⟩:=cN i d;obtain⟨rfl,rfl⟩:j=some ⟨f,g,none⟩/\l=n:=Vk;have u:wr.cell? ⟨f,g+k,none⟩=some (.int .i64 (L[k]:Int)):=Wn;have HT:=hid_ (Bi d);have r:(k:Int)<(L.length:Int):=Q0;exact Z_
 obtain rfl:k=L.length:=Q0;rw[take_length];exact aer
theorem wR{n}{g:Int->Int}{b s}:∀{f:List Fct},(∀y∈f,aG n g y)->∀{a:Int},(bX b (a/25).toNat:Int)≠s->cd (kJ b s f) a=cd f a
 |[],_,_,_=>rfl
 |y::f,c,a,d=>by
  have ih:=wR (f:=f) (s:=s) (λj hz=>c j Sz) d
  have i:=kC (c y Q1)
  unfold kJ at ih⊢
  rw[filter_cons]
  by_cases e:bL y=a
  .have h:(!decide ((bX b y.pred.toNat:Int)=s))=true:=by rw[i,e];simp[d]
   rw[if_pos h,eL,eL,if_pos e,if_pos e]
  rw[eL y f,if_neg e]
  split
  .rw[eL,if_neg e]
   exact ih
  exact ih
theorem AZ{c b}(d:bP c b=0){a}(h:a∈b){l}(g:l∈a.body):bX (bM c b) l.atom.pred.toNat+(if l.neg then 1 else 0)<=bX (bM c b) a.head.pred.toNat:=by
 have f:=(o9 (lJ (gN (gO d).1).2.2) (iq d).1).2.1;exact f (iY a l) (mem_flatMap.2 ⟨a,h,mem_map.2 ⟨l,g,rfl⟩⟩)
theorem wS{a b l c}(g:cx a b=0)(f:iE a=true)(d:l∈b.body)(h:cT c=true):bL (cv c l.atom)/25=l.atom.pred:=
 (kC (iC (nS ((f_ g).2.1 l d) f h).2)).symm
theorem AL{f b a}:∀{ls:List Ltr},(∀l∈ls,cd f (bL (cv a l.atom))=cd b (bL (cv a l.atom)))->cS f a ls=cS b a ls
 |[],_=>rfl
 |l::ls,c=>by
  have ih:=AL (ls:=ls) (λg d=>c g (by simp[d]))
  unfold cS at ih⊢
  rw[all_cons,all_cons,ih]
  unfold lD kD
  rw[c l Q1]
theorem IF{g f c a b}(h:∀l∈a.body,cd f (bL (cv b l.atom))=cd c (bL (cv b l.atom))):co g f a b=co g c a b:=by
 unfold co dI;split
 .rename_i hs;have d:a.src.toNat<a.body.length:=Q0;unfold oU eK;rw[getElem?_eq_getElem d];show Fct.mk _ _ _ (fG _ ((cd f (bL (cv b a.body[a.src.toNat].atom))).getD 0) _)=Fct.mk _ _ _ (fG _ ((cd c (bL (cv b a.body[a.src.toNat].atom))).getD 0) _);rw[h _ (getElem_mem d)]
 rfl
theorem Bh:∀(l:List Nat) (n:Nat),n<=l.foldl (λn s=>max n (s+1)) n/\∀a∈l,a<l.foldl (λn s=>max n (s+1)) n
 |[],n=>⟨le_refl _,Q1⟩
 |y::l,n=>by
  have ih:=Bh l (max n (y+1))
  rw[List.foldl_cons]
  refine⟨le_trans (Nat.le_max_left _ _) ih.1,λa hx=>?_⟩
  rcases mem_cons.1 hx with rfl|hx
  .exact lt_of_lt_of_le (lt_of_lt_of_le (Nat.lt_succ_self _) (Nat.le_max_right _ _)) ih.1
  exact ih.2 a hx
theorem IL{b i c}(a:ej b i=0)(h:∀d∈c,cx b d=0)(j:c.length<=8):ej b c=0:=by
 have f:=ud (all_eq_true.2 λd g=>by rw[h d g];rfl);rw[ej] at a⊢;split at a
 .contradiction
 rename_i h1;rw[if_neg Q0];split at a
 .contradiction
 rename_i h2;rw[if_neg h2];split at a
 .contradiction
 rename_i h3;rw[if_neg h3];split at a
 .contradiction
 rename_i h4;rw[if_neg h4];split at a
 .contradiction
 rename_i h5;rw[if_neg h5];exact f
theorem IK{a f b}(d:bP a f=0)(g:∀c∈b,c∈f)(n:b.length<=8):bP a b=0/\∀k,bX (bM a b) k<=bX (bM a f) k:=by
 have p:=eU d;have h:=(gO d).1;have i:=IL h (λc o=>p c (g c o)) n;obtain⟨r,_⟩:=iq d;have q:=lJ (gN h).2.2;have m:=lJ (gN i).2.2;obtain⟨_,t,_⟩:=o9 q r;have l:=IB g t
 have j:bP a b=0:=by
  rw[bP,if_neg (by rw[i];simp)];cases e:eX (cI b) a with
  |none=>exact absurd l (Dc m e _)
  |some u=>rfl
 refine⟨j,?_⟩;obtain⟨s,_⟩:=iq j;exact(o9 m s).2.2 _ l
structure Lev (ps:List Prd) (rs:List Rul) (s:Int) (f g:List Fct):Prop where
 r0:bS ps rs f=0
 r1:bS ps rs g=0
 le:dL (bJ ps) f g=true
 out:kJ (bM ps rs) s g=kJ (bM ps rs) s f
theorem cZ{a c f}(b:bS a c f=0):bP a c=0/\bW a f=0:=⟨(mj 0 b).1,(mj 0 b).2.1⟩
theorem A9{a b f}(h:bP a b=0)(c:bW a f=0):bS a b f=0:=by rw[bS,if_neg TN,c]
theorem Lev.a{c d s f}(b:bS c d f=0):Lev c d s f f:=⟨b,b,v7 (cG (cZ b).2),rfl⟩
theorem Lev.c{d g s f h i}(a:Lev d g s f h)(b:Lev d g s h i):Lev d g s f i:=
 ⟨a.r0,b.r1,q_ (cG (cZ a.r0).2) (cG (cZ a.r1).2) (cG (cZ b.r1).2) a.le b.le,b.out.trans a.out⟩
theorem Lev.e{g h s f c}(a:Lev g h s f c){b}(d:(bX (bM g h) (b/25).toNat:Int)≠s):cd c b=cd f b:=by
 rw[<-wR (cG (cZ a.r1).2).fine d,a.out,wR (cG (cZ a.r0).2).fine d]
theorem Lev.d{o h s f j}(b:Lev o h s f j){a}(m:a∈h)(z:(bX (bM o h) a.head.pred.toNat:Int)=s){i}(w:cT i=true)(r:cS f i a.body=true):cS j i a.body=true:=by
 obtain⟨l,k⟩:=cZ b.r0;refine all_eq_true.2 λn c=>?_;have h1:=all_eq_true.1 r n c;have u:=AZ l m c;unfold lD kD at h1⊢;cases g:n.neg
 .rw[g] at h1;have p:=Q6;obtain⟨x,q⟩:=Option.isSome_iff_exists.1 p;obtain⟨y,t,_⟩:=(ka (cG k)).1 b.le _ _ q;rw[t];rfl
 rw[g,if_pos rfl] at u;have v:=wS (eU l a m) (eR k).2.1 c w;rw[b.e (by rw[v];omega)];rw[g] at h1;exact h1
theorem Lev.f{a d s f}(h:bS a d f=0){c}(k:c∈d)(l:(bX (bM a d) c.head.pred.toNat:Int)=s){j}(m:cT j=true):Lev a d s f (cy (bJ a) (co a f c j) f):=by
 obtain⟨i,b⟩:=cZ h;have g:=kZ (eU i c k) b m;exact⟨h,A9 i (nz b g),vZ (cG b) (iC g),xu g l (cG b).fine⟩
theorem Lev.b{c d}(s){f}(a:bS c d f=0):Lev c d s f (bV c d f s):=⟨a,jK s a,(nv s a).1,(mj s a).2.2.2.1⟩
theorem Lev.h{a c s f i}(j:Lev a c s f i)(r:cM a c i s=false){b}(m:b∈c)(u:(bX (bM a c) b.head.pred.toNat:Int)=s){g}(B:pG f b g):dL (bJ a) [co a f b g] i=true:=by
 obtain⟨w,n⟩:=cZ j.r0;have k:=(cZ j.r1).2;have o:=eU w;have p:=mL (S:=ce (bM a c) s) o k;rw[cM,if_neg (by rw[j.r1];simp),ul k p] at r;have A:=by simpa using r
 obtain⟨l,q,v⟩:=B
 have t:co a i b g∈cK a (ce (bM a c) s) i c:=by
  refine mem_flatMap.2 ⟨b,m,?_⟩;rw[if_pos (by unfold ce;exact decide_eq_true u)];exact mem_map.2 ⟨⟨0,g.x,g.y,g.z⟩,iG.2 ⟨rfl,l,j.d m u l q,v⟩,rfl⟩
 exact q_ (cG (ut n (kZ (o b m) n l))) (cG (ut k (p _ t))) (cG k) (GS (o b m) n k l j.le q) (ur A t)
theorem Lev.i{d g s f j}(a:Lev d g s f j)(m:cM d g j s=false):Lev d g s (bV d g f s) j:=by
 obtain⟨o,k⟩:=cZ a.r0;have n:=(cZ a.r1).2;have l:=mL (S:=ce (bM d g) s) (eU o) k;refine⟨jK s a.r0,a.r1,?_,a.out.trans (Lev.b s a.r0).out.symm⟩;rw[bV,if_neg (by rw[a.r0];simp)];refine ui k n l a.le (all_eq_true.2 λu c=>?_);obtain⟨r,p,c⟩:=mem_flatMap.1 c;split at c
 .rename_i hS;unfold ce at hS;obtain⟨t,q,rfl⟩:=mem_map.1 c;rw[<-oh];exact a.h m p (of_decide_eq_true hS) (iG.1 q).2
 cases c
theorem Lev.k{b c s d}(g:cM b c d s=false)(n):∀{f:List Fct},Lev b c s f d->Lev b c s (iX b c s n f) d:=by
 induction n with
 |zero=>intro f a;exact a
 |succ n ih=>
  intro f a;rw[iX];split
  .exact ih (a.i g)
  exact a
theorem Lev.j{g h s}(n):∀{f:List Fct},bS g h f=0->Lev g h s f (iX g h s n f):=by
 induction n with
 |zero=>intro f d;exact Lev.a d
 |succ n ih=>
  intro f d;rw[iX];split
  .exact(Lev.b s d).c (ih (jK s d))
  exact Lev.a d
theorem Lev.g{a b s f}(c:bS a b f=0):Lev a b s f (dw a b s f):=Lev.j _ c
theorem Lev.l{a c s f b}(d:Lev a c s f b)(h:cM a c b s=false)(i:dL (bJ a) b (dw a c s f)=true):b=dw a c s f:=
 tx (cG (cZ d.r1).2) (cG (cZ (Lev.g d.r0).r1).2) i (Lev.k h _ d).le
def cO(f g:List Fct):List Fct:=g.filter λy=>decide (cd f (bL y)≠some y.val)
def fZ(fr:List Fct)(r:Rul)(v:ae):Bool:=r.body.any λl=>(cd fr (bL (cv v l.atom))).isSome
def ol(L:List Nat)(s:Int)(fr:List Fct)(r:Rul)(v:ae):Bool:=r.body.any λl=> !l.neg&&decide ((bX L l.atom.pred.toNat:Int)=s)&&(cd fr (bL (cv v l.atom))).isSome
def qg(first:Bool)(fr f:List Fct)(r:Rul)(n:Int):List Stp:=(bI f r n).filter λst=>first||fZ fr r st.a
def jv(ps:List Prd)(first:Bool)(fr f:List Fct)(r:Rul):List Fct:=(qg first fr f r 0).map λst=>co ps f r st.a
def cH(ps:List Prd)(S:Rul->Bool)(first:Bool)(fr f:List Fct)(rs:List Rul):List Fct:=rs.flatMap λr=>if S r then jv ps first fr f r else[]
theorem C0(b)(a:Rul->Bool)(d f c):cH b a true d f c=cK b a f c:=by
 unfold cH cK jv eV qg;congr 1;funext r;split
 .congr 1;exact List.filter_eq_self.2 λ_ _=>rfl
 rfl
theorem xE{f a}(c:fV a){d g}(m:cd a d=some g):cd (cO f a) d=if cd f d=some g then none else some g:=by
 obtain⟨b,k,rfl,rfl⟩:=mD m;by_cases h:cd f (bL b)=some b.val
 .rw[if_pos h];cases e:cd (cO f a) (bL b) with
  |none=>rfl
  |some r=>
   obtain⟨s,p,j,_⟩:=mD e;obtain⟨q,l⟩:=mem_filter.1 p;have i:=oR c q;rw[j,oR c k] at i;rw[j,<-i] at l;simp[h] at l
 rw[if_neg h];have n:b∈cO f a:=mem_filter.2 ⟨k,Q2⟩;have o:fV (cO f a):=List.Pairwise.filter _ c;exact oR o n
theorem KQ{f a}(h:fV a){b}(d:cd a b=none):cd (cO f a) b=none:=by
 cases e:cd (cO f a) b with
 |none=>rfl
 |some j=>
  obtain⟨k,i,g,_⟩:=mD e;have c:=oR h (mem_filter.1 i).1;rw[g,d] at c;cases c
theorem Lr{h j s d f}(g:Lev h j s d f){c}(y:c∈j){a}(A:pG f c a)(v:fZ (cO d f) c a=false):pG d c a/\co h d c a=co h f c a:=by
 obtain⟨w,m⟩:=cZ g.r0;have u:=(cZ g.r1).2;obtain⟨k,r,t⟩:=A
 have p:∀b∈c.body,cd d (bL (cv a b.atom))=cd f (bL (cv a b.atom)):=λb o=>by
  have x:=wS (eU w c y) (eR m).2.1 o k;by_cases z:(bX (bM h j) b.atom.pred.toNat:Int)=s
  .have i:=any_eq_false.1 v b o;cases n:cd f (bL (cv a b.atom)) with
   |none=>
    cases e:cd d (bL (cv a b.atom)) with
    |none=>rfl
    |some q=>
     obtain⟨B,l,_⟩:=(ka (cG m)).1 g.le _ _ e;rw[n] at l;cases l
   |some q=>
    rw[xE (cG u).sorted n] at i;by_cases e:cd d (bL (cv a b.atom))=some q
    .exact e
    rw[if_neg e] at i;simp at i
  exact(g.e (by rw[x];exact z)).symm
 exact⟨⟨k,by rw[AL p];exact r,t⟩,IF p⟩
theorem CX{c d s f}(h:bS c d f=0):cA (bJ c) (bV c d f s) (cH c (ce (bM c d) s) false (cO f (bV c d f s)) (bV c d f s) d)=bV c d (bV c d f s) s:=by
 have u:=Lev.b s h;obtain⟨C,t⟩:=cZ h;have i:=(cZ u.r1).2;have y:=eU C;have v:=mL (S:=ce (bM c d) s) y t;have m:=mL (S:=ce (bM c d) s) y i
 have D:dL (bJ c) (cK c (ce (bM c d) s) f d) (bV c d f s)=true:=by
  rw[bV,if_neg TN];exact rG t v
 have z:∀j∈cH c (ce (bM c d) s) false (cO f (bV c d f s)) (bV c d f s) d,j∈cK c (ce (bM c d) s) (bV c d f s) d:=λj g=>by
  obtain⟨k,n,g⟩:=mem_flatMap.1 g;refine mem_flatMap.2 ⟨k,n,?_⟩;split at g
  .rename_i hS;rw[if_pos hS];obtain⟨l,o,rfl⟩:=mem_map.1 g;exact mem_map.2 ⟨l,(mem_filter.1 o).1,rfl⟩
  cases g
 have p:=λj g=>m j (z j g);have r:=lK i p;have w:=lK i m;have A:bV c d (bV c d f s) s=cA (bJ c) (bV c d f s) (cK c (ce (bM c d) s) (bV c d f s) d):=by rw[bV,if_neg (by rw[u.r1];simp)]
 rw[A];refine tx (cG r) (cG w) ?_ ?_
 .refine ui i w p (pZ i m) (all_eq_true.2 λj g=>?_);rw[<-oh];exact ur (rG i m) (z j g)
 refine ui i r m (pZ i p) (all_eq_true.2 λj g=>?_);rw[<-oh];obtain⟨k,n,g⟩:=mem_flatMap.1 g;split at g
 .rename_i hS;obtain⟨l,o,rfl⟩:=mem_map.1 g;have B:=(iG.1 o).2;cases x:fZ (cO f (bV c d f s)) k l.a
  .obtain⟨E,F⟩:=Lr u n B x;have q:co c f k l.a∈cK c (ce (bM c d) s) f d:=mem_flatMap.2 ⟨k,n,by rw[if_pos hS];exact mem_map.2 ⟨l,iG.2 ⟨(iG.1 o).1,E⟩,rfl⟩⟩;rw[<-F];exact q_ (cG (ut t (v _ q))) (cG i) (cG r) (ur D q) (pZ i p)
  have q:co c (bV c d f s) k l.a∈cH c (ce (bM c d) s) false (cO f (bV c d f s)) (bV c d f s) d:=mem_flatMap.2 ⟨k,n,by rw[if_pos hS];exact mem_map.2 ⟨l,mem_filter.2 ⟨o,by rw[x];rfl⟩,rfl⟩⟩;exact ur (rG i p) q
 cases g
theorem oj{c d s f}(g:bS c d f=0):cO f (bV c d f s)=[]↔cM c d f s=false:=by
 have k:=Lev.b s g;have j:=(cZ g).2;have a:=(cZ k.r1).2;rw[(nv s g).2];constructor
 .intro e
  have:f=bV c d f s:=tx (cG j) (cG a) k.le ((ka (cG a)).2 λp n l=>by
   have h:=xE (f:=f) (cG a).sorted l;rw[e,qT] at h;by_cases i:cd f p=some n
   .exact⟨n,i,rl (iS (cG a) l)⟩
   rw[if_neg i] at h
   cases h)
  rw[decide_eq_true this];rfl
 intro e;have o:=Vu;refine List.filter_eq_nil_iff.2 λq m=>?_;rw[<-o] at m;simp[oR (cG j).sorted m]
def jb(ps:List Prd)(rs:List Rul)(s:Int)(f0 f:List Fct):List Fct:=cH ps (ce (bM ps rs) s) false (cO f0 f) f rs
def f4(ps:List Prd)(rs:List Rul)(s:Int):Nat->List Fct->List Fct->Nat
 |0,_,_=>0
 |n+1,f0,f=>if cO f0 f=[] then 0 else(jb ps rs s f0 f).length+f4 ps rs s n f (bV ps rs f s)
def kg(ps:List Prd)(rs:List Rul)(s:Int)(f:List Fct):Nat:=(cK ps (ce (bM ps rs) s) f rs).length+f4 ps rs s (dM+1) f (bV ps rs f s)
theorem abF(h:p:=by
 cases h':cM ps rs f s
 .exact absurd ((oj h).2 h') hc
 rfl):p:=h
theorem Lg{ps rs s}(n):∀{f:List Fct},bS ps rs f=0->dM<n+eS ps f->f4 ps rs s (n+1) f (bV ps rs f s)=f4 ps rs s n f (bV ps rs f s):=by
 induction n with
 |zero=>
  intro f h c;have:=ke (cZ h).2;omega
 |succ n ih=>
  intro f h c;by_cases hc:cO f (bV ps rs f s)=[]
  .have e:∀a,f4 ps rs s (a+1) f (bV ps rs f s)=0:=λa=>by rw[f4,if_pos hc]
   rw[e,e]
  have e:∀a,f4 ps rs s (a+1) f (bV ps rs f s)=(jb ps rs s f (bV ps rs f s)).length+f4 ps rs s a (bV ps rs f s) (bV ps rs (bV ps rs f s) s):=λa=>by rw[f4,if_neg hc]
  have b:cM ps rs f s=true:=by
   exact abF
  have d:=nY h b;rw[e,e,ih (jK s h) Q0]
theorem rN{c d s a f}(b:cO a f=[]):f4 c d s (dM+1) a f=0:=by rw[f4,if_pos b]
theorem o6{ps rs s f}(h:bS ps rs f=0)(hc:cO f (bV ps rs f s)≠[]):f4 ps rs s (dM+1) f (bV ps rs f s)=(jb ps rs s f (bV ps rs f s)).length+f4 ps rs s (dM+1) (bV ps rs f s) (bV ps rs (bV ps rs f s) s):=by
 have a:cM ps rs f s=true:=by
  exact abF
 have b:=nY h a;rw[f4,if_neg hc,Lg dM (jK s h) Q0]
def dA(ps:List Prd)(rs:List Rul):Nat->Nat
 |0=>0
 |t+1=>dA ps rs t+kg ps rs (t:Int) (cQ ps rs t)
def lx(ps:List Prd)(r:Rul)(f:List Fct)(v:ae):List Fct:=cy (bJ ps) (co ps f r v) f
def kv(ps:List Prd)(r:Rul)(f:List Fct)(v:ae):Bool:=dR (bJ ps) (co ps f r v) f
def cV(ps:List Prd)(r:Rul):List Fct->List Stp->List Fct
 |f,[]=>f
 |f,s::l=>cV ps r (lx ps r f s.a) l
def dH(ps:List Prd)(r:Rul):List Fct->List Stp->List Stp
 |_,[]=>[]
 |f,s::l=>(if kv ps r f s.a then[s] else[])++dH ps r (lx ps r f s.a) l
theorem y8(b c s):∀(l:List Stp) (f:List Fct),cV b c f (l++[s])=lx b c (cV b c f l) s.a
 |[],_=>rfl
 |t::l,f=>by rw[cons_append,cV,cV,y8 b c s l]
theorem y_(b c s):∀(l:List Stp) (f:List Fct),dH b c f (l++[s])=dH b c f l++if kv b c (cV b c f l) s.a then[s] else[]
 |[],f=>by rw[nil_append,dH,dH,cV,dH,append_nil,nil_append]
 |t::l,f=>by rw[cons_append,dH,dH,cV,y_ b c s l,append_assoc]
def cE(ps:List Prd)(rs:List Rul)(s:Int)(f:List Fct):Nat->List Fct
 |0=>f
 |n+1=>match rs[n]? with
  |none=>cE ps rs s f n
  |some r=>if ce (bM ps rs) s r then cV ps r (cE ps rs s f n) (bI (cE ps rs s f n) r (n:Int)) else cE ps rs s f n
def d8(ps:List Prd)(rs:List Rul)(s:Int)(f:List Fct):Nat->List Stp
 |0=>[]
 |n+1=>d8 ps rs s f n++match rs[n]? with
  |none=>[]
  |some r=>if ce (bM ps rs) s r then dH ps r (cE ps rs s f n) (bI (cE ps rs s f n) r (n:Int)) else[]
theorem vE{b a s f n}(d:n<a.length)(c:ce (bM b a) s a[n]=true):cE b a s f (n+1)=cV b a[n] (cE b a s f n) (bI (cE b a s f n) a[n] (n:Int)):=by
 rw[cE,getElem?_eq_getElem d];show(if _ then _ else _)=_;rw[if_pos c]
theorem sX{b a s f n}(c:n<a.length)(h:ce (bM b a) s a[n]=false):cE b a s f (n+1)=cE b a s f n:=by
 rw[cE,getElem?_eq_getElem c];show(if _ then _ else _)=_;rw[if_neg TN]
theorem vG{b a s f n}(d:n<a.length)(c:ce (bM b a) s a[n]=true):d8 b a s f (n+1)=d8 b a s f n++dH b a[n] (cE b a s f n) (bI (cE b a s f n) a[n] (n:Int)):=by
 rw[d8,getElem?_eq_getElem d];show _++(if _ then _ else _)=_;rw[if_pos c]
theorem vF{b a s f n}(c:n<a.length)(h:ce (bM b a) s a[n]=false):d8 b a s f (n+1)=d8 b a s f n:=by
 rw[d8,getElem?_eq_getElem c];show _++(if _ then _ else _)=_;rw[if_neg TN,append_nil]
theorem Wo(h:p:=by simp only[dH,cV,length_nil,add_zero,le_refl]):p:=h
theorem Wp(h:p:=by rw[kv,hC.2 hne] at hc;cases hc):p:=h
theorem abf(h:p:=by
 simp only[length_cons,length_nil]
 omega):p:=h
theorem vH{ps rs s r}(hr:r∈rs)(hs:(bX (bM ps rs) r.head.pred.toNat:Int)=s):∀{l:List Stp} {f:List Fct},bS ps rs f=0->(∀t∈l,cT t.a=true)->Lev ps rs s f (cV ps r f l)/\eS ps f+(dH ps r f l).length<=eS ps (cV ps r f l)/\(dH ps r f l=[]->cV ps r f l=f)/\(cV ps r f l).length<=f.length+(dH ps r f l).length
 |[],f,h,_=>⟨Lev.a h,Wo,λ_=>rfl,Wo⟩
 |t::l,f,h,ht=>by
  have h1:=Lev.f h hr hs (ht t Q1)
  have hf:=(cZ h).2
  have hx:=kZ (eU (cZ h).1 r hr) hf (ht t Q1)
  obtain⟨i1,i2,i3,i4⟩:=vH hr hs (l:=l) (f:=lx ps r f t.a) h1.r1 (λu hu=>ht u (by simp[hu]))
  have hC:=qO (x:=co ps f r t.a) (cG hf)
  rw[cV,dH]
  refine⟨h1.c i1,?_,λe=>?_,?_⟩
  .cases hc:kv ps r f t.a
   .have e:lx ps r f t.a=f:=byContradiction λhne=>Wp
    rw[e] at i2⊢
    simpa using i2
   have hne:=hC.1 hc
   have:=A6 (cZ h1.r0).2 (cZ h1.r1).2 h1.le (Ne.symm hne)
   rw[if_pos rfl,length_append]
   show _+([t].length+_)<=_
   have e:eS ps (cy (bJ ps) (co ps f r t.a) f)=eS ps (lx ps r f t.a):=rfl
   rw[e] at this
   exact abf
  .cases hc:kv ps r f t.a
   .rw[hc] at e
    have e':lx ps r f t.a=f:=byContradiction λhne=>Wp
    rw[e'] at e i3⊢
    exact i3 Vu
   rw[hc] at e
   simp at e
  cases hc:kv ps r f t.a
  .have e:lx ps r f t.a=f:=byContradiction λhne=>Wp
   rw[e] at i4⊢
   simpa using i4
  have:(lx ps r f t.a).length<=f.length+1:=add_length _ _ _
  rw[if_pos rfl,length_append]
  exact abf
where
 add_length (K:Int->Int) (x:Fct):∀f:List Fct,(cy K x f).length<=f.length+1
  |[]=>by simp[cy]
  |y::f=>by
   have:=add_length K x f
   rw[cy]
   split
   .simp
   split<;>simp<;>omega
theorem Fy{c g s b}(j:b∈g)(m:(bX (bM c g) b.head.pred.toNat:Int)=s){f}(o:bS c g f=0){n k}(q:k<(bI f b n).length):cT (bI f b n)[k].a=true/\bS c g (cV c b f ((bI f b n).take k))=0/\cS (cV c b f ((bI f b n).take k)) (bI f b n)[k].a b.body=true:=by
 obtain⟨_,h,p,_⟩:=iG.1 (getElem_mem q);have i:=(vH j m o (l:=(bI f b n).take k) (λt r=>(iG.1 (List.mem_of_mem_take r)).2.1)).1;exact⟨h,i.r1,i.d j m h p⟩
theorem px{a s b}:ce a s b=true↔(bX a b.head.pred.toNat:Int)=s:=by unfold ce;simp
theorem Wq(h:p:=by simp only[d8,cE,length_nil,add_zero,le_refl]):p:=h
theorem sY{d b s f}(o:bS d b f=0):∀n,Lev d b s f (cE d b s f n)/\eS d f+(d8 d b s f n).length<=eS d (cE d b s f n)/\(d8 d b s f n=[]->cE d b s f n=f)/\(cE d b s f n).length<=f.length+(d8 d b s f n).length
 |0=>⟨Lev.a o,Wq,λ_=>rfl,Wq⟩
 |n+1=>by
  obtain⟨i,p,m,q⟩:=sY o n
  by_cases h:n<b.length
  .cases g:ce (bM d b) s b[n]
   .rw[sX h g,vF h g]
    exact⟨i,p,m,q⟩
   rw[vE h g,vG h g]
   obtain⟨t,v,u,w⟩:=vH (getElem_mem h) (px.1 g) i.r1 (l:=bI (cE d b s f n) b[n] (n:Int)) (λx r=>(iG.1 r).2.1)
   refine⟨i.c t,?_,λe=>?_,?_⟩
   .rw[length_append];omega
   .obtain⟨j,k⟩:=append_eq_nil_iff.1 e
    rw[u k,m j]
   rw[length_append];omega
  have j:cE d b s f (n+1)=cE d b s f n:=by rw[cE,getElem?_eq_none Q0]
  have k:d8 d b s f (n+1)=d8 d b s f n:=by rw[d8,getElem?_eq_none Q0,append_nil]
  rw[j,k]
  exact⟨i,p,m,q⟩
def fQ(ps:List Prd)(rs:List Rul)(s:Int)(f:List Fct):List Fct:=cE ps rs s f rs.length
def cX(ps:List Prd)(rs:List Rul)(s:Int)(f:List Fct):List Stp:=d8 ps rs s f rs.length
theorem te{a b s f}(c:bS a b f=0):Lev a b s f (fQ a b s f)/\eS a f+(cX a b s f).length<=eS a (fQ a b s f)/\(cX a b s f=[]->fQ a b s f=f)/\(fQ a b s f).length<=f.length+(cX a b s f).length:=sY c _
def gW(ps:List Prd)(rs:List Rul)(s:Int):Nat->List Fct->List Fct
 |0,f=>f
 |n+1,f=>if cX ps rs s f=[] then f else gW ps rs s n (fQ ps rs s f)
def jk(ps:List Prd)(rs:List Rul)(s:Int):Nat->List Fct->List Stp
 |0,_=>[]
 |n+1,f=>if cX ps rs s f=[] then[] else cX ps rs s f++jk ps rs s n (fQ ps rs s f)
theorem FA{a b s}(n):∀{f:List Fct},bS a b f=0->dM<n+eS a f->gW a b s (n+1) f=gW a b s n f/\jk a b s (n+1) f=jk a b s n f/\cX a b s (gW a b s n f)=[]:=by
 induction n with
 |zero=>
  intro f h i;have:=ke (cZ h).2;omega
 |succ n ih=>
  intro f h i;by_cases d:cX a b s f=[]
  .have e:∀c,gW a b s (c+1) f=f:=λc=>by rw[gW,if_pos d]
   have g:∀c,jk a b s (c+1) f=[]:=λc=>by rw[jk,if_pos d]
   rw[e,e,g,g];exact⟨rfl,rfl,d⟩
  have j:=te (s:=s) h;have o:=length_pos_iff.2 d;obtain⟨k,l,m⟩:=ih j.1.r1 (f:=fQ a b s f) Q0;have e:∀c,gW a b s (c+1) f=gW a b s c (fQ a b s f):=λc=>by rw[gW,if_neg d]
  have g:∀c,jk a b s (c+1) f=cX a b s f++jk a b s c (fQ a b s f):=λc=>by rw[jk,if_neg d]
  rw[e,e,g,g,k,l];exact⟨rfl,rfl,m⟩
def gG(ps:List Prd)(rs:List Rul)(s:Int)(f:List Fct):List Fct:=gW ps rs s (dM+1) f
def gH(ps:List Prd)(rs:List Rul)(s:Int)(f:List Fct):List Stp:=jk ps rs s (dM+1) f
theorem sV{ps a s f}(b:cX ps a s f=[]):gG ps a s f=f/\gH ps a s f=[]:=by
 rw[gG,gH,gW,jk,if_pos b,if_pos b];exact⟨rfl,rfl⟩
theorem oK{a b s f}(d:bS a b f=0)(c:cX a b s f≠[]):gG a b s f=gG a b s (fQ a b s f)/\gH a b s f=cX a b s f++gH a b s (fQ a b s f):=by
 have g:=te (s:=s) d;have j:=length_pos_iff.2 c;obtain⟨h,i,_⟩:=FA (s:=s) dM g.1.r1 Q0;rw[gG,gH,gW,jk,if_neg c,if_neg c,gG,gH,h,i];exact⟨rfl,rfl⟩
theorem Wr(h:p:=by simp only[jk,gW,length_nil,add_zero,le_refl]):p:=h
theorem Ws(h:p:=by simp only[length_nil,add_zero,le_refl]):p:=h
theorem zd{b d s}(n):∀{f:List Fct},bS b d f=0->Lev b d s f (gW b d s n f)/\eS b f+(jk b d s n f).length<=eS b (gW b d s n f)/\(gW b d s n f).length<=f.length+(jk b d s n f).length:=by
 induction n with
 |zero=>intro f g;exact⟨Lev.a g,Wr,Wr⟩
 |succ n ih=>
  intro f g;rw[gW,jk];by_cases h:cX b d s f=[]
  .rw[if_pos h,if_pos h];exact⟨Lev.a g,Ws,Ws⟩
  rw[if_neg h,if_neg h];obtain⟨i,m,_,o⟩:=te (s:=s) g;obtain⟨j,k,l⟩:=ih i.r1;rw[length_append];exact⟨i.c j,Q0,Q0⟩
def dh(ps:List Prd)(rs:List Rul):Nat->List Fct×List Stp
 |0=>([],[])
 |t+1=>(gG ps rs (t:Int) (dh ps rs t).1,(dh ps rs t).2++gH ps rs (t:Int) (dh ps rs t).1)
theorem vO{a b}(c:bP a b=0):∀t,bS a b (dh a b t).1=0
 |0=>tN c
 |t+1=>(zd (dM+1) (vO c t)).1.r1
theorem vN{a b}(c:bP a b=0):∀t,(dh a b t).2.length<=eS a (dh a b t).1/\(dh a b t).1.length<=(dh a b t).2.length
 |0=>⟨by simp only[dh,length_nil,zero_le],by simp only[dh,length_nil,le_refl]⟩
 |t+1=>by
  obtain⟨d,f⟩:=vN c t
  obtain⟨_,g,h⟩:=zd (s:=(t:Int)) (dM+1) (vO c t)
  show((dh a b t).2++jk a b (t:Int) (dM+1) (dh a b t).1).length<=eS a (gW a b (t:Int) (dM+1) (dh a b t).1)/\_
  rw[length_append]
  refine⟨Q0,?_⟩
  show(gW a b (t:Int) (dM+1) (dh a b t).1).length<=((dh a b t).2++jk a b (t:Int) (dM+1) (dh a b t).1).length
  rw[length_append]
  omega
theorem Fz{g j s m}(p:cM g j m s=false){i}(c:i∈j)(k:(bX (bM g j) i.head.pred.toNat:Int)=s):∀{l:List Stp} {f:List Fct},Lev g j s f m->(∀t∈l,pG f i t.a)->Lev g j s (cV g i f l) m
 |[],_,b,_=>b
 |t::l,f,b,r=>by
  have n:=r t Q1
  have o:=Lev.f b.r0 c k n.1
  obtain⟨v,q⟩:=cZ b.r0
  have x:=kZ (eU v i c) q n.1
  rw[cV]
  refine Fz p c k ⟨o.r1,b.r1,vQ (cG q) (cG (cZ b.r1).2) (iC x) b.le (b.h p c k n),b.out.trans o.out.symm⟩ λy w=>?_
  obtain⟨u,z,A⟩:=r y (by simp[w])
  exact⟨u,o.d c k u z,A⟩
theorem Fv{b a s c}(i:cM b a c s=false){f}(h:Lev b a s f c):∀n,Lev b a s (cE b a s f n) c
 |0=>h
 |n+1=>by
  have ih:=Fv i h n
  by_cases g:n<a.length
  .cases d:ce (bM b a) s a[n]
   .rw[sX g d]
    exact ih
   rw[vE g d]
   exact Fz i (getElem_mem g) (px.1 d) ih λk j=>(iG.1 j).2
  rw[cE,getElem?_eq_none Q0]
  exact ih
theorem QD{b c s d}(g:cM b c d s=false)(n):∀{f:List Fct},Lev b c s f d->Lev b c s (gW b c s n f) d:=by
 induction n with
 |zero=>intro f a;exact a
 |succ n ih=>
  intro f a;rw[gW];split
  .exact a
  exact ih (Fv g a _)
theorem y7{a b s f}:∀{n m:Nat},n<=m->d8 a b s f m=[]->d8 a b s f n=[]
 |n,0,c,e=>by rw[show n=0 by omega];exact e
 |n,m+1,c,e=>by
  by_cases d:n=m+1
  .rw[d];exact e
  rw[d8] at e
  exact y7 (n:=n) (m:=m) Q0 (append_eq_nil_iff.1 e).1
theorem Fx{b k c}(p:c∈k):∀{l:List Stp} {f:List Fct},bS b k f=0->dH b c f l=[]->∀d∈l,kv b c f d.a=false
 |[],_,_,_,d,ht=>by cases ht
 |u::l,f,j,e,d,ht=>by
  rw[dH] at e
  obtain⟨h,i⟩:=append_eq_nil_iff.1 e
  have g:kv b c f u.a=false:=by
   cases n:kv b c f u.a
   .rfl
   rw[n,if_pos rfl] at h
   cases h
  have m:lx b c f u.a=f:=byContradiction λo=>by rw[kv,(qO (x:=co b f c u.a) (cG (cZ j).2)).2 o] at g;cases g
  rcases mem_cons.1 ht with rfl|ht
  .exact g
  rw[m] at i
  exact Fx p j i d ht
theorem QO{a b s c}(h:bS a b c=0)(e:cX a b s c=[]):cM a b c s=false:=by
 obtain⟨l,g⟩:=cZ h;have p:=mL (S:=ce (bM a b) s) (eU l) g;rw[cM,if_neg TN,ul g p]
 have:dL (bJ a) (cK a (ce (bM a b) s) c b) c=true:=all_eq_true.2 λu d=>by
  obtain⟨t,i,d⟩:=mem_flatMap.1 d;split at d
  .rename_i hS;obtain⟨f,q,rfl⟩:=getElem_of_mem i;have j:d8 a b s c (f+1)=[]:=y7 Q0 e;have n:d8 a b s c f=[]:=y7 Q0 e;have o:=(sY (s:=s) h f).2.2.1 n;rw[vG q hS,o] at j;rw[rF a c b[f] (f:Int)] at d;obtain⟨r,m,rfl⟩:=mem_map.1 d;have k:=Fx i h (append_eq_nil_iff.1 j).2 r m;rw[kv,Cg g (kZ (eU l _ i) g (iG.1 m).2.1)] at k;simpa using k
  cases d
 rw[this];rfl
theorem Qw{b c s f}(a:bS b c f=0):gG b c s f=dw b c s f:=by
 have d:=(zd (s:=s) (dM+1) a).1;have h:=QO d.r1 (FA (s:=s) (dM+1) a Q0).2.2;exact d.l h (QD (IE a) _ (Lev.g a)).le
theorem FD{a b}(c:bP a b=0):∀t,(dh a b t).1=cQ a b t
 |0=>rfl
 |t+1=>by
  show gG a b (t:Int) (dh a b t).1=dw a b (t:Int) (cQ a b t)
  rw[FD c t,Qw (kF c t)]
theorem Fw{c a s}(g:∀j∈a,ce (bM c a) s j=false)(f):∀n,cE c a s f n=f/\d8 c a s f n=[]
 |0=>⟨rfl,rfl⟩
 |n+1=>by
  obtain⟨h,i⟩:=Fw g f n
  by_cases b:n<a.length
  .have d:=g _ (getElem_mem b)
   rw[sX b d,vF b d]
   exact⟨h,i⟩
  rw[cE,d8,getElem?_eq_none Q0]
  exact⟨h,by rw[i];rfl⟩
theorem Fu{b a}(d:bP b a=0){t}(i:cC (bM b a)<=t):∀c∈a,ce (bM b a) (t:Int) c=false:=λc h=>by
 cases e:ce (bM b a) (t:Int) c
 .rfl
 have e:=px.1 e
 obtain⟨j,k,f⟩:=fd.1 (gP (f_ (eU d c h)).1).1
 rw[f,toNat_natCast] at e
 have l:=(iq d).2
 have g:bX (bM b a) j∈bM b a:=by
  unfold bX
  rw[List.getD_eq_getElem?_getD,getElem?_eq_getElem Q0]
  exact getElem_mem _
 have:=(Bh (bM b a) 0).2 _ g
 unfold cC at i
 omega
theorem QM{a b}(h:bP a b=0){c}(j:cC (bM a b)<=c):dh a b c=dh a b (cC (bM a b)):=by
 induction c with
 |zero=>rw[show cC (bM a b)=0 by omega]
 |succ c ih=>
  by_cases e:cC (bM a b)=c+1
  .rw[e]
  have i:=Fu h (t:=c) Q0;obtain⟨d,g⟩:=sV (ps:=a) (f:=(dh a b c).1) (Fw i _ _).2;rw[<-ih Q0];show(gG a b (c:Int) (dh a b c).1,(dh a b c).2++gH a b (c:Int) (dh a b c).1)=_;rw[d,g,append_nil]
theorem ZF(h:p:=by
 have h:=rR (lJ z3) l1 (k:=k) Q0
 unfold bX at h
 simp[hk] at h
 omega):p:=h
theorem vL{b g}(h:bP b g=0):cC (bM b g)<=b.length:=by
 obtain⟨l1,l⟩:=iq h;obtain⟨m,n,z3⟩:=gN (gO h).1
 have:∀(c:List Nat) (a:Nat),a<=b.length->(∀f∈c,f<b.length)->c.foldl (λa i=>max a (i+1)) a<=b.length:=λc=>by
  induction c with
  |nil=>intro a h _;exact h
  |cons f c ih=>
   intro a h d;have:=d f Q1;exact ih _ (max_le.2 ⟨h,this⟩) (λj hy=>d j Rn)
 refine this _ 0 Q0 λf d=>?_;obtain⟨k,hk,e⟩:=getElem_of_mem d;exact ZF
def mx(ps:List Prd)(rs:List Rul):List Stp:=(dh ps rs (cC (bM ps rs))).2
def jl(rs:List Rul)(f:List Fct)(s:Stp):Int:=if 0<=s.rule/\s.rule<(rs.length:Int) then(if cT s.a then(if cS f s.a ((rs[s.rule.toNat]?.map Rul.body).getD []) then 0 else 1) else 3) else 7
def ku(ps:List Prd)(rs:List Rul)(f:List Fct)(s:Stp):List Fct:=match rs[s.rule.toNat]? with
 |none=>f
 |some r=>lx ps r f s.a
theorem QF{c f s}(b:jl c f s=0):∃(n:Nat) (d:n<c.length),s.rule=(n:Int)/\cT s.a=true/\cS f s.a c[n].body=true/\∀h,ku h c f s=lx h c[n] f s.a:=by
 unfold jl at b;split at b
 .rename_i h1;split at b
  .rename_i h2;split at b
   .rename_i h3;obtain⟨n,d⟩:∃n:Nat,s.rule=(n:Int):=⟨s.rule.toNat,Q0⟩;have g:n<c.length:=Q0;rw[d,toNat_natCast,getElem?_eq_getElem g] at h3;exact⟨n,g,d,h2,h3,λh=>by rw[ku,d,toNat_natCast,getElem?_eq_getElem g]⟩
   cases b
  cases b
 cases b
theorem Ld{j h s c f}(i:Lev j h s c f){d}(p:d∈h)(D:(bX (bM j h) d.head.pred.toNat:Int)=s){b}(z:cT b=true):ol (bM j h) s (cO c f) d b=fZ (cO c f) d b:=by
 obtain⟨o,q⟩:=cZ i.r0;have l:=(cZ i.r1).2
 have A:∀a∈d.body,(!a.neg&&decide ((bX (bM j h) a.atom.pred.toNat:Int)=s)&&(cd (cO c f) (bL (cv b a.atom))).isSome)=(cd (cO c f) (bL (cv b a.atom))).isSome:=λa n=>by
  have x:=wS (eU o d p) (eR q).2.1 n z;have t:=AZ o p n;cases k:cd f (bL (cv b a.atom)) with
  |none=>rw[KQ (cG l).sorted k];simp
  |some C=>
   rw[xE (cG l).sorted k];by_cases e:cd c (bL (cv b a.atom))=some C
   .rw[if_pos e];simp
   rw[if_neg e];have y:=byContradiction λv=>e (by rw[<-k];exact(i.e (by rw[x];exact v)).symm)
   have w:a.neg=false:=by
    cases u:a.neg
    .rfl
    rw[u,if_pos rfl] at t;omega
   rw[w,decide_eq_true y];rfl
 unfold ol fZ
 have:∀g:List Ltr,(∀a∈g,a∈d.body)->g.any (λa=> !a.neg&&decide ((bX (bM j h) a.atom.pred.toNat:Int)=s)&&(cd (cO c f) (bL (cv b a.atom))).isSome)=g.any λa=>(cd (cO c f) (bL (cv b a.atom))).isSome:=λg=>by
  induction g with
  |nil=>intro _;rfl
  |cons a g ih=>
   intro m;rw[any_cons,any_cons,A a (m a Q1),ih λB r=>m B (by simp[r])]
 exact this _ λ_ i=>i
theorem K9{a b}(h:bP a b=0){t}(l:cC (bM a b)<=t){f}(c:bS a b f=0):kg a b (t:Int) f=0/\bV a b f (t:Int)=f:=by
 have j:=Fu h l
 have d:cK a (ce (bM a b) (t:Int)) f b=[]:=by
  unfold cK;rw[List.flatMap_eq_nil_iff];intro m k;rw[if_neg (by rw[j m k];simp)]
 have g:bV a b f (t:Int)=f:=by rw[bV,if_neg (by rw[c];simp),d];rfl
 have i:cM a b f (t:Int)=false:=by rw[(nv (t:Int) c).2,g];simp
 exact⟨by rw[kg,d,rN ((oj c).2 i)];rfl,g⟩
theorem K8{b c}(d:bP b c=0){a}(k:cC (bM b c)<=a):dA b c a=dA b c (cC (bM b c))/\cQ b c a=cQ b c (cC (bM b c)):=by
 induction a with
 |zero=>rw[show cC (bM b c)=0 by omega];exact⟨rfl,rfl⟩
 |succ a ih=>
  by_cases e:cC (bM b c)=a+1
  .rw[e];exact⟨rfl,rfl⟩
  obtain⟨i,j⟩:=ih Q0;obtain⟨f,g⟩:=K9 d (t:=a) Q0 (kF d a);have h:cM b c (cQ b c a) (a:Int)=false:=by rw[(nv (a:Int) (kF d a)).2,g];simp
  rw[dA,cQ,f,(oV h).1];exact⟨i,j⟩
theorem tB{wr a:World}(b:Below wr wr a)(d f g h):Below wr wr ((((a.setCell wr d).setCell ⟨wr,1,none⟩ f).setCell ⟨wr,2,none⟩ g).setCell ⟨wr,3,none⟩ h):=by
 have e:∀c,wr.heap.size<=(⟨wr,c,none⟩:Addr).block:=λ_=>le_refl _;exact(((b.setCell (e _) _).setCell (e _) _).setCell (e _) _).setCell (e _) _
theorem tK{wr a:World}(c:Below (wr.alloc (.cells #[.int .i64 0,.int .i64 0,.int .i64 0,.int .i64 0] 93)).drew.heap.size (wr.alloc (.cells #[.int .i64 0,.int .i64 0,.int .i64 0,.int .i64 0] 93)).drew a):a.cell? wr=some (.int .i64 0)/\a.cell? ⟨wr,1,none⟩=some (.int .i64 0)/\a.cell? ⟨wr,2,none⟩=some (.int .i64 0)/\a.cell? ⟨wr,3,none⟩=some (.int .i64 0)/\∀o,a.frozen? ⟨wr,o,none⟩=false:=by
 have b:wr.heap.size<(wr.alloc (.cells #[.int .i64 0,.int .i64 0,.int .i64 0,.int .i64 0] 93)).drew.heap.size:=by simp[World.drew]
 have e:=λo=>bF c (o:=o) b;rw[e,e,e,e];refine⟨?_,?_,?_,?_,λo=>?_⟩;all_goals first|rw[(fR c).2 _ _ b]|skip
 all_goals simp[go_sem]
theorem tC{b:World}{a o f}(c:b.cell? ⟨a,o,none⟩=some f):a<b.heap.size:=by
 obtain⟨g,d,_⟩:=cells_of_cell c;exact(Array.getElem?_eq_some_iff.1 d).1
def lF(u v:Value)(l:List Fct):Prop:=l=[]\/∀b,u.ownBlock=some b->v.ownBlock≠some b
theorem Zk(h:p:=by
 rcases hx with hx|⟨b,off,rfl,hb,hx⟩
 .exact .inl hx
 have e:∀o,B.cell? ⟨b,o,none⟩=A.cell? ⟨b,o,none⟩:=λo=>cell?_of_block (hg.block b hb (λe=>hne b rfl e.symm))
 exact .inr ⟨b,off,rfl,lt_of_lt_of_le hb hg.size,λi x hi=>⟨(e _).trans (hx i x hi).1,(e _).trans (hx i x hi).2.1,(e _).trans (hx i x hi).2.2.1,(e _).trans (hx i x hi).2.2.2⟩⟩):p:=h
theorem wP{A B:World}{a c l}(g:bO A a l)(hg:A.grownBy B c.ownBlock)(hne:lF a c l):bO B a l:=by
 obtain⟨d,f,rfl,h,hx⟩:=g;refine⟨d,f,rfl,h,?_⟩;rcases hne with rfl|hne
 .exact .inl rfl
 exact Zk
theorem Is{n}{f:World}{c d l}(g:j9 n f c l)(i:∀b,d.ownBlock=some b->b<n):lF c d l:=.inr λa h e=>by
 have:=g.2 a h
 have:=i a e
 omega
theorem wL{n}{d:World}{c h i l}(k:bO d c l)(ha:lF c h l)(s:d.heap.size<=n)(m:∀b,i.ownBlock=some b->h.ownBlock=some b\/b=n):lF c i l:=by
 rcases ha with rfl|ha
 .exact .inl rfl
 obtain⟨o,p,rfl,r,g⟩:=k;rcases g with rfl|⟨a,t,rfl,q,g⟩
 .exact .inl rfl
 refine .inr λj f e=>?_;obtain rfl:a=j:=by simpa[ownBlock] using f
 rcases m a e with e'|e'
 .exact ha a f e'
 omega
theorem It{n}{b a c:World}{d e k l}(f:Below n b a)(i:a.ownsRow n e 1 d k l)(g:a.grownBy c d.ownBlock)(j:n<=a.heap.size):Below n b c:=f.grown g j (λk h=>(i.lt k h).1)
theorem wQ{a b s f}(c:bS a b f=0):eA a b s f<=2000:=le_trans (le_trans (Nat.le_add_right _ _) (Bb (dM+1) c)) (Nat.le_of_eq oW)
theorem AU{a b s c f j}(d:dw a b s c=dw a b s f/\eA a b s c+j=eA a b s f)(k:bS a b c=0):(cM a b c s=false->c=dw a b s f/\j=eA a b s f)/\(cM a b c s=true->dw a b s (bV a b c s)=dw a b s f/\eA a b s (bV a b c s)+(j+1)=eA a b s f):=by
 constructor
 .intro i;obtain⟨g,h⟩:=oV i;rw[g,h,zero_add] at d;exact d
 intro i;obtain⟨g,h⟩:=me k i;rw[g,h] at d;exact⟨d.1,Q0⟩
theorem Wz(h:p:=by rw[<-hW1];exact⟨by simp[go_sem],by simp[go_sem],by simp⟩):p:=h
theorem Zg(h:p:=by
 have:∀(l:List Nat) (n:Nat),n<=5->(∀x∈l,x<5)->l.foldl (λn s=>max n (s+1)) n<=5:=λl=>by
  induction l with
  |nil=>intro n h _;exact h
  |cons x l ih=>
   intro n h hx
   have:=hx x Q1
   exact ih _ (max_le.2 ⟨h,this⟩) (λy hy=>hx y Rn)
 refine this _ 0 Q0 λx hx=>?_
 obtain⟨k,hk,e⟩:=getElem_of_mem hx
 have h:=rR (lJ z3) l1 (k:=k) Q0
 unfold bX at h
 simp[hk] at h
 omega):p:=h
theorem Z8(h:p:=by
 intro n h hx
 have:=hx x Q1
 exact ih _ (max_le.2 ⟨h,this⟩) (λy hy=>hx y Rn)):p:=h
theorem A4(i:World)(A B c d)(R:bR i A c)(S:ck i B d)(z:bP c d=0):Calls prog 93 #[.agg #[A,B]] i λe q=>∃g f,e=.returned (.tuple #[g,f])/\bO q g (dg c d)/\dD q f (iW c d)/\Below i i q:=by
 obtain⟨aC,aD,z3⟩:=gN (gO z).1;obtain⟨l1,av⟩:=iq z;have aS:Hid (∀x,Below i i x->Calls prog 44 #[.agg #[A,B]] x λe q=>(∃f,e=.returned f/\dD q f (bM c d))/\Below x x q):=λx hx=>(pX x A B c d (bR.a hx R) (ck.a hx S) aC aD z3).mono λ_ _ ⟨⟨f,h1,M⟩,aW⟩=>⟨⟨f,h1,M _ l1⟩,aW⟩
 have aN:Hid (∀x g m (b:Int),bS c d m=0->bO x g m->Below i i x->Calls prog 141 #[.agg #[A,B],g,b] x λe q=>∃p,e=.returned (.tuple #[p,.bool (cM c d m b)])/\j9 x q p (bV c d m b)/\Below x x q):=λx g m b h1 M hx=>by
  have h:=J_ x A B g c d m b (bM c d) (bR.a hx R) (ck.a hx S) M z (mj b h1).2.1 l1 av;rw[cM,bV,if_neg UO,if_neg UO];exact h
 have aM:=hid_ (kF z);have aP:Hid (∀b:Nat,eA c d (b:Int) (cQ c d b)<=2000):=λb=>wQ (kF z b)
 have K:Hid (cC (bM c d)<=5):=by
  exact Zg
 obtain⟨aw,ax,rfl,_⟩:=R;obtain⟨ay,az,rfl,_⟩:=S;clear l1 av aC aD z3 z;rw[dg,iW];generalize bM c d=t at*;obtain⟨r,hW1⟩:=ex_ (i.alloc (.cells #[.slice aw c ax,.slice ay d az] 30));have aU:Below i i r:=VO;have U:r.cell? i=some (.slice aw c ax)/\r.cell? ⟨i,1,none⟩=some (.slice ay d az)/\i.heap.size<r.heap.size:=Wz;go_enter func93,ntmps93;go_wp2_with fail;clear hW1;go_loopw [4,5,6] (λm a5 T wr=>∃(b:Nat) (g f:Value),g=m/\f=a5/\b<=cC t/\T=.int .i64 b/\bO wr g (cQ c d b)/\wr.ownsRow r.heap.size 3 1 f (il c d b).length (gA (il c d b))/\lF g f (cQ c d b)/\Below r r wr) (λ_ _ T _=>cC t-(intOf T).toNat)
 case atStart=>exact⟨0,_,_,rfl,rfl,zero_le _,rfl,ie _,IJ _ _,.inl rfl,Below.refl _ _⟩
 obtain⟨b,g,f,rfl,rfl,bd,rfl,am,Q,ap,N⟩:=hrel;have au:=bt_ aU N;obtain⟨ag,ah,_⟩:=jL N U;go_wp2_with fail;refine(aS _ au).mono ?_;rintro e a7 ⟨⟨bh,rfl,ao⟩,F⟩;go_wp2_with fail;refine(wT _ _ _ ao).mono ?_;rintro e af ⟨rfl,rfl⟩;clear ao;have ar:=bt_ au F;have ai:=bt_ N F;have bc:=ai.size;have V:=hid_ (bO.a F am);have ab:=hid_ (cg Q F);have aF:=hid_ ap;have aT:=hid_ (λj u=>lt_of_lt_of_le (Q.lt j u).2 F.size);have ad:Hid ((il c d b).length=b):=by show _=_;simp[il]
 clear ag ah Q ap;by_cases aY:b<cC t
 .have bb:(b:Int)<=(cC t:Int)-1:=Q0;have aK:=hid_ aY;have aQ:=hid_ (aP b);have Z:Hid (cQ c d (b+1)=dw c d (b:Int) (cQ c d b)):=by show _=_;rw[cQ]
  have aR:=hid_ (wW c d b);have aL:=hid_ (aM b);generalize al:eA c d (b:Int) (cQ c d b)=J at*;have X:=hid_ al;clear al am;generalize cQ c d b=D at*;generalize il c d b=ae at*;go_wp2_with fail;go_loopw [4,7] (λm n aB=>∃(o:Nat) (p:Value) (j:List Fct),p=m/\n=.int .i64 o/\o<=J/\Hid (bS c d j=0/\dw c d (b:Int) j=dw c d (b:Int) D/\eA c d (b:Int) j+o=eA c d (b:Int) D)/\bO aB p j/\lF p f j/\Below af af aB) (λ_ n _=>J-(intOf n).toNat)
  case atStart=>exact⟨0,g,D,rfl,rfl,zero_le _,⟨aL.out,rfl,add_zero _⟩,V.out,aF.out,Below.refl _ _⟩
  obtain⟨o,p,j,rfl,rfl,a9,u,P,aq,v⟩:=hrel;have a3:=bt_ ar v;have aj:=bt_ ai v;obtain⟨ag,ah,_⟩:=jL aj U;have H:=aN wr p j (b:Int) u.out.1 P a3;have C:=AU u.out.2 u.out.1;have aJ:=hid_ u.out.1;have aI:=hid_ P;have aa:=hid_ aq;rw[X.out] at C;clear P u aq;cases w:cM c d j (b:Int)
  .obtain⟨E,I⟩:=C.1 w;subst I;have Y:=hid_ E;rw[w] at H;clear C E w;go_wp2_with fail;refine H.mono ?_;rintro e L ⟨aA,rfl,_,G⟩;have ak:=bt_ aj G;have a2:=ak.size;have ac:=hid_ (cg (cg ab v) G);have W:=hid_ (bO.a G aI.out);have be:=aK.out;have bf:=K.out;have bg:(b:Int)<=5:=Q0;have aO:Hid (ae.length<=500):=by show _<=_;rw[ad.out];have:=K.out;omega
   go_wp2_with(at_builtin;refine IW _ rfl _ _ rfl r.heap.size f ae o (cg ac (bH _ _)) rfl L.heap.size rfl 3 (heap_alloc_new L _) aO RD ?_;intro a6 bi a0 an aZ);exact⟨⟨b+1,p,a6,rfl,rfl,Q0,Rv,by rw[Z.out,<-Y.out];exact wP (bO.a (bH _ _) W.out) an aa.out,by rw[aR.out];exact a0,by rw[Z.out,<-Y.out];exact wL (bO.a (bH _ _) W.out) aa (le_refl _) aZ,It (ak.alloc a2 _) (cg ac (bH _ _)) an RD⟩,S6⟩
  obtain⟨E,I⟩:=C.2 w;have aG:Hid (bS c d (bV c d j (b:Int))=0/\dw c d (b:Int) (bV c d j (b:Int))=dw c d (b:Int) D/\eA c d (b:Int) (bV c d j (b:Int))+(o+1)=eA c d (b:Int) D):=⟨jK _ aJ.out,E,by rw[X.out];exact I⟩;have aX:o+1<=J:=Q0;have ba:(o:Int)<=2000:=by have:=aQ.out;omega
  rw[w] at H;clear C E I w;generalize bV c d j (b:Int)=aV at*;go_wp2_with fail;refine H.mono ?_;rintro e L ⟨aA,rfl,O,G⟩;have aE:=hid_ (Is O (λa4 a1=>lt_of_lt_of_le (aT a4 a1) v.size));have aH:=hid_ O.1;clear O;go_wp2_with fail;exact⟨⟨o+1,aA,aV,rfl,Rv,aX,aG.out,aH.out,aE.out,v.trans (G.mono v.size)⟩,S6⟩
 obtain rfl:b=cC t:=Q0;have a8:¬((cC t:Nat):Int)<=((cC t:Nat):Int)-1:=Q0;go_wp2_with fail;refine bodyPost_ret (v:=.tuple #[g,f]) (by simp[results,results93,go_sem]) rfl ?_;exact⟨g,f,rfl,V.out,II ab (by rw[ad.out];have:=K.out;omega),ar⟩
theorem A3(c:World)(g h d f)(j:bR c g d)(l:ck c h f)(k:bP d f=0):Calls prog 42 #[.agg #[g,h]] c λe n=>∃b,e=.returned b/\bO n b (dg d f)/\Below c c n:=by
 have p:=hid_ (λs m=>A4 s g h d f (bR.a m j) (ck.a m l) k);obtain⟨u,v,rfl,_⟩:=j;obtain⟨w,x,rfl,_⟩:=l;clear k;go_enter func42,ntmps42;go_wp2_with fail;refine(p _ (bH _ _)).mono ?_;rintro e t ⟨b,r,rfl,i,_,q⟩;have o:=hid_ i;clear i;go_wp2_with fail;refine bodyPost_ret (v:=b) (by simp[results,results42,go_sem]) rfl ?_;exact⟨b,rfl,o.out,cU (bH _ _) q⟩
theorem IR(b:World)(f g c d)(k:bR b f c)(m:ck b g d)(l:bP c d=0):Calls prog 45 #[.agg #[f,g]] b λe o=>∃h,e=.returned h/\dD o h (iW c d)/\Below b b o:=by
 have q:=hid_ (λs n=>A4 s f g c d (bR.a n k) (ck.a n m) l);obtain⟨u,v,rfl,_⟩:=k;obtain⟨w,x,rfl,_⟩:=m;clear l;go_enter func45,ntmps45;go_wp2_with fail;refine(q _ (bH _ _)).mono ?_;rintro e t ⟨h,i,rfl,_,j,r⟩;have p:=hid_ j;clear j;go_wp2_with fail;refine bodyPost_ret (v:=i) (by simp[results,results45,go_sem]) rfl ?_;exact⟨i,rfl,p.out,cU (bH _ _) r⟩
def ik(ps:List Prd)(rs:List Rul):Nat:=if bP ps rs≠0 then 0 else cC (bM ps rs)
theorem AO(d:World)(i j b c)(v:bR d i b)(w:ck d j c)(N:dU b):Calls prog 71 #[.agg #[i,j]] d λe h=>e=.returned (.tuple #[.int .i64 (ik b c:Int),.int .i64 (bP b c)])/\Below d d h:=by
 have F:Hid (∀g,Below d d g->Calls prog 28 #[.agg #[i,j]] g λe h=>(∃f L,e=.returned (.tuple #[f,.int .i64 (bP b c)])/\ik b c=cC L/\dD h f L/\∀t∈L,t<5)/\Below g g h):=λg x=>(pS g i j b c (bR.a x v) (ck.a x w) N).mono λ_ h ⟨⟨f,p,I,J⟩,K⟩=>by
  refine⟨?_,K⟩;by_cases hpe:bP b c=0
  .obtain⟨y,aa⟩:=iq hpe;obtain⟨af,ag,U⟩:=gN (gO hpe).1;refine⟨f,bM b c,p,by rw[ik,if_neg Ui],J _ y hpe,λt O=>?_⟩;obtain⟨k,u,e⟩:=getElem_of_mem O;have o:=rR (lJ U) y (k:=k) Q0;unfold bX at o;simp[u] at o;omega
  have:=I hpe;subst this;exact⟨_,[],p,by rw[ik,if_pos hpe];rfl,⟨none,0,rfl,Q1,.inl rfl⟩,Q1⟩
 obtain⟨ab,ac,rfl,_⟩:=v;obtain⟨ad,ae,rfl,_⟩:=w;generalize bP b c=B at*;generalize ik b c=G at*;go_enter func71,ntmps71;go_wp2_with fail;refine(F _ (bH _ _)).mono ?_;rintro e H ⟨⟨f,L,rfl,r,s,q⟩,M⟩;have E:=hid_ r;have C:=hid_ q;have D:=hid_ s;obtain⟨S,T,rfl,X,_⟩:=s;clear r q;go_wp2_with fail;have P:=cU (bH _ _) M;go_loopw [6,16] (λR n wr=>∃k:Nat,k<=L.length/\n=.int .i64 k/\R=.int .i64 (cC (L.take k):Int)/\wr=H) (λ_ n _=>L.length-(intOf n).toNat)
 case atStart=>exact⟨0,zero_le _,rfl,rfl,rfl⟩
 obtain⟨k,u,rfl,rfl,rfl⟩:=hrel;by_cases l:k<L.length
 .obtain⟨z,A,Q,hlv,W,l0⟩:=cN D l;obtain⟨rfl,rfl⟩:S=some ⟨z,A,none⟩/\T=Q:=Vk;have Z:wr.cell? ⟨z,A+k,none⟩=some (.int .i64 (L[k]:Int)):=Wn;have HT:=hid_ (Bi l);have V:(k:Int)<(L.length:Int):=Q0;have Y:(L[k]:Int)<=5:=by have:=C _ (getElem_mem l);omega
  exact Z_
 obtain rfl:k=L.length:=Q0;rw[take_length,<-E.out];go_wp2_with fail;refine bodyPost_ret (v:=.tuple #[G,B]) (by simp[results,results71,go_sem]) rfl ?_;exact⟨rfl,P⟩
attribute [local go_sem] semAt_some
abbrev nU:=Nat×Value
def tR(x:nU):Array Value:=#[.int .i64 (x.1:Int),x.2]
def nV(xs:List nU):Value:=(xs.getLast?.map snd).getD (.slice none 0 0)
def im(ps:List Prd)(rs:List Rul)(t:Nat):List Nat:=(List.range t).flatMap fun(s:Nat)=>replicate (eA ps rs (s:Int) (cQ ps rs s)) s
theorem tS(b c a):im b c (a+1)=im b c a++replicate (eA b c (a:Int) (cQ b c a)) a:=by
 unfold im;rw[List.range_succ,List.flatMap_append,List.flatMap_singleton]
theorem IV(c d){b a}(f:b<=a):(im c d b).length<=(im c d a).length:=by
 induction a with
 |zero=>rw[show b=0 by omega];exact le_refl _
 |succ a ih=>
  by_cases e:b=a+1
  .rw[e];exact le_refl _
  rw[tS,length_append];exact le_trans (ih Q0) (Nat.le_add_right _ _)
theorem AY(b a):nV (b++[a])=a.2:=by simp[nV]
theorem IC{g:Nat->Prop}{d f:World}{c l}(hk:aq g d f)(hX:∀b,c.ownBlock=some b->¬g b)(h:bO d c l):bO f c l:=by
 exact Zr
def kc(n:Nat)(w:World)(v:Value)(l:List Fct):Prop:=bO w v l/\fW n v/\gw w v
theorem kc.a(n)(b:World):kc n b (.slice none 0 0) []:=⟨ie _,qW _,qZ _⟩
theorem kc.c{n}{d h:World}{g l}(b:kc n d g l)(f:Below d d h):kc n h g l:=⟨bO.a f b.1,b.2.1,b.2.2.a f⟩
theorem kc.b{n}{h:Nat->Prop}{f g:World}{d l}(m:aq h f g)(j:∀i,d.ownBlock=some i->¬h i)(c:kc n f d l):kc n g d l:=⟨IC m j c.1,c.2.1,λa k=>by
 obtain⟨p,o,q⟩:=c.2.2 a k
 exact⟨p,o,m.same a _ (j a k) q rfl⟩⟩
theorem ID{p:World}{o f b}(q:bO p o f)(k:bO p o b):f=b:=by
 obtain⟨y,C,rfl,_,i⟩:=q;obtain⟨z,D,e,_,j⟩:=k;simp only[Value.slice.injEq] at e;obtain⟨rfl,r,rfl⟩:=e;refine ext_getElem r λa m n=>?_;rcases i with rfl|⟨A,F,rfl,E,i⟩
 .simp at m
 rcases j with rfl|⟨B,G,l,_,j⟩
 .simp at n
 simp only[injEq,Addr.mk.injEq,and_true] at l;obtain⟨rfl,rfl⟩:=l;obtain⟨s,t,u,v⟩:=i a f[a] (by simp[m]);obtain⟨c,d,g,h⟩:=j a b[a] (by simp[n]);rw[s] at c;rw[t] at d;rw[u] at g;rw[v] at h;simp only[injEq,Value.int.injEq,true_and] at c d g h;revert c d g h;generalize f[a]=w;generalize b[a]=x;intro c d g h;cases w
 cases x
 simp_all
open Classical in
noncomputable def nW(ps:List Prd)(v:Value)(w:World):Nat:=if h:∃g,bO w v g then dM-eS ps h.choose else 0
theorem nX{g b}{c:World}{a}(d:bO c b a):nW g b c=dM-eS g a:=by
 have f:∃a,bO c b a:=⟨a,d⟩;rw[nW,dif_pos f,ID f.choose_spec d]
theorem A_(n:Nat)(bw:1<=n)(ab M m:Nat)(p:Nat->Prop)(W Y f g)(q:Nat)(o:World)(aH:¬p ab)(aj:¬p M)(hX:∀k,p k->m<=k/\k<o.heap.size)(aO:m<=o.heap.size)(aI:o.cell? ab=some (.int .i64 (q:Int)))(aJ:o.cell? M=some W)(aK:o.cell? ⟨M,1,none⟩=some Y)(D:World)(hw₀:D.heap.size=m)(hb₀:Below m D o)(aP:bR D W f)(aS:ck D Y g)(aT:dU f)(aQ:bP f g=0)(bs:q<=5):Cb Fence.wide n prog 115 #[.pointer (some ⟨ab,0,none⟩),.pointer (some ⟨M,0,none⟩)] tR (λj _=>j.1<q/\∃u x v,j.2=.slice u x v) (ag m p) (λaV a8=>aV.map fst=im f g q/\kc m a8 (nV aV) (cQ f g q)) (im f g q).length o:=λl af aB aG ba bd a9=>by
 have az:Hid (ag m p o aB):=ag.b aG aO
 have aA:Hid (∀j,ag m p o j->Below D D j):=λj hx=>VT
 have aq:=hid_ λj (hx:ag m p o j)=>an_ (hx.but.a aH aI) (an_ (hx.but.a aj aJ) (hx.but.a aj aK))
 have a4:Hid (∀j r i (d:Nat),bS f g i=0->bO j r i->ag m p o j->Calls prog 116 #[.agg #[W,Y],r,d] j λe Z=>∃u x v,e=.returned (.tuple #[.slice u x v,.bool (cM f g i (d:Int)),.int .i64 0])/\bO Z (.slice u x v) (bV f g i (d:Int))/\(fW j (.slice u x v)/\gw Z (.slice u x v))/\Below j j Z):=λj r i d I J hx=>by
  have h:=J6 j W Y r f g i (d:Int) (bR.a (aA j hx) aP) (ck.a (aA j hx) aS) J aT
  rw[I] at h
  refine h.mono ?_
  rintro e Z ⟨A,be,bf,s,bm,ak⟩
  obtain⟨u,x,v,rfl,_⟩:=id s.1
  exact⟨u,x,v,be,bf,⟨s,bm⟩,ak⟩
 have a7:Hid (∀k,o.heap.size<=k->¬p k):=λk bu h=>VX
 have aw:=hid_ λy aa aW (I:af y aa)(J:Below aa aa aW)=>ba _ _ _ none I (uk J) (λ_ e=>T8)
 have ae:=hid_ λj (hx:ag m p o j)=>le_trans aO hx.but.size
 have a2:=hid_ (kF aQ)
 obtain⟨bz,bA,rfl,_⟩:=aP
 obtain⟨bC,bD,rfl,_⟩:=aS
 clear aQ hX hb₀ aI aJ aK aG aT aH aj
 refine callsIn_of_wp func115 rfl trivial ?_ rfl
 simp only[ntmps115,size_toArray,length_cons,length_nil,reduceAdd,reduceSub,replicate_succ,replicate_zero,push_toArray,append_toArray,nil_append,cons_append]
 obtain⟨Q,R,S⟩:=aq aB az.out
 gi_wp2_with fail
 clear Q R S
 gi_loopw [4,10] (λH ao wr=>∃(d:Nat) (r:Value) (y:List nU),r=H/\d<=q/\ao=.int .i64 d/\Hid (y.map fst=im f g d)/\Hid (nV y=r)/\kc m wr r (cQ f g d)/\(∀t,r.ownBlock=some t->¬p t)/\af y wr/\ag m p o wr) (λ_ ao _=>q-(intOf ao).toNat)
 case atStart=>exact⟨0,_,[],rfl,zero_le _,rfl,rfl,rfl,kc.a _ _,(λt h=>Rm),a9,az.out⟩
 obtain⟨d,r,y,rfl,bx,rfl,aR,aN,am,bj,aF,bg⟩:=hrel
 by_cases bi:d<q
 .have bv:(d:Int)<(q:Int):=Q0
  have N:=hid_ bi
  have ay:=hid_ (tS f g d)
  have a6:Hid ((im f g (d+1)).length<=(im f g q).length):=IV f g Q0
  have a3:Hid (cQ f g (d+1)=dw f g (d:Int) (cQ f g d)):=by show _=_;rw[cQ]
  have a0:=hid_ (a2 d)
  generalize aD:eA f g (d:Int) (cQ f g d)=aX at*
  have av:=hid_ aD
  clear aD
  generalize cQ f g d=F at*
  have aZ:=hid_ am
  clear am
  gi_wp2_with fail
  gi_loopw [4] (λH L=>∃(C:Nat) (A:Value) (i:List Fct) (z:List nU),A=H/\Hid (bS f g i=0/\dw f g (d:Int) i=dw f g (d:Int) F/\eA f g (d:Int) i+C=eA f g (d:Int) F)/\Hid (z.map fst=im f g d++replicate C d)/\Hid (nV z=A)/\kc m L A i/\(∀t,A.ownBlock=some t->¬p t)/\af z L/\ag m p o L) (λH L=>nW f H L)
  case atStart=>exact⟨0,r,F,y,rfl,⟨a0.out,rfl,add_zero _⟩,by show _=_;rw[aR.out];simp,aN,aZ.out,bj,aF,bg⟩
  obtain⟨C,A,i,z,rfl,K,an,bh,al,bk,aE,w⟩:=hrel
  obtain⟨Q,R,S⟩:=aq wr w
  have O:=a4 wr A i d K.out.1 al.1 w
  have E:=AU K.out.2 K.out.1
  have ad:=hid_ K.out.1
  have au:=hid_ al
  rw[av.out] at E
  clear al K
  cases s:cM f g i (d:Int)
  .obtain⟨G,T⟩:=E.1 s
   subst T
   have a1:=hid_ G
   rw[s] at O
   clear E G s
   gi_wp2_with fail
   refine⟨trivial,CallsIn.mono (callsIn_wide.2 O) ?_⟩
   rintro e ah ⟨P,V,X,rfl,_,_,B⟩
   have ap:=w.a (ag.b B (ae _ w))
   have ai:=aw _ _ _ aE B
   have ac:=hid_ (au.out.c B)
   clear Q R S
   gi_wp2_with fail
   have bB:(d:Int)<=5:=by have:=N.out;omega
   go_roundw
   case rel=>exact⟨d+1,A,z,rfl,N.out,Rv,by show _=_;rw[an.out,ay.out],bh,by rw[a3.out,<-a1.out];exact ac.out,bk,ai,ap⟩
   have:=N.out;simp[intOf];omega
  obtain⟨G,T⟩:=E.2 s
  have aY:Hid (bS f g (bV f g i (d:Int))=0/\dw f g (d:Int) (bV f g i (d:Int))=dw f g (d:Int) F/\eA f g (d:Int) (bV f g i (d:Int))+(C+1)=eA f g (d:Int) F):=⟨jK _ ad.out,G,by rw[av.out];exact T⟩
  have a5:Hid (eS f i<eS f (bV f g i (d:Int))/\eS f (bV f g i (d:Int))<=dM):=⟨nY ad s,ke (mj (d:Int) ad.out).2.2.1⟩
  have bt:C+1<=aX:=Q0
  rw[s] at O
  clear E G T s
  generalize bV f g i (d:Int)=aC at*
  have bl:z.length<(im f g q).length:=by
   have I:=a6.out
   have J:=congrArg List.length an.out
   rw[ay.out,length_append,List.length_replicate] at I
   rw[length_map,length_append,List.length_replicate] at J
   omega
  gi_wp2_with fail
  refine⟨trivial,CallsIn.mono (callsIn_wide.2 O) ?_⟩
  rintro e ah ⟨P,V,X,rfl,aL,U,B⟩
  have ap:=w.a (ag.b B (ae _ w))
  have ai:=aw _ _ _ aE B
  have ac:Hid (kc m ah (.slice P V X) aC):=⟨aL,U.1.a (ae _ w),U.2⟩
  have ax:=hid_ (λt ak=>a7 t (le_trans w.but.size (U.1.2 t ak)))
  obtain⟨br,bE,bo,bp,aU,bc⟩:=bd z (d,.slice P V X) ah ⟨N.out,_,_,_,rfl⟩ ai bl
  dsimp only[tR] at aU
  clear Q R S aL U
  gi_wp2_with fail
  refine bc.mono ?_
  rintro bq bn ⟨rfl,bb,aM⟩
  have ar:=hid_ (kc.b aM.but ax ac.out)
  clear aU
  gi_wp2_with fail
  go_roundw
  case rel=>exact⟨C+1,_,aC,z++[(d,Value.slice P V X)],rfl,aY.out,by show _=_;rw[map_append,an.out,List.replicate_succ',append_assoc];rfl,(by show _=_;exact AY _ _),ar.out,ax.out,bb,ap.a aM⟩
  rw[nX ar.out.1,nX au.out.1];have:=a5.out;omega
 obtain rfl:d=q:=Q0
 gi_wp2_with fail
 go_end0
 exact⟨⟨_,rfl⟩,y,⟨aR.out,by rw[aN.out];exact am⟩,aF⟩
attribute [local go_sem] semAt_some
theorem Ba(a:World)(b)(d c:Nat)(f)(h g:Nat)(s:Int):Calls prog 72 #[.agg #[.slice b d c,.slice f h g],s] a λe i=>e=.returned (.func (.func 115) #[] #[.pointer (some ⟨a.heap.size+1,0,none⟩),.pointer (some ⟨a,0,none⟩)])/\ i=(a.alloc (.cells #[.slice b d c,.slice f h g] 30)).alloc (.cells #[s] 3):=by
 go_enter func72,ntmps72;exact aer
theorem wN(b c):ik b c<=5:=by
 unfold ik;split
 .omega
 rename_i a;have a:=not_not.1 a;obtain⟨l1,d⟩:=iq a;obtain⟨f,g,z3⟩:=gN (gO a).1;exact Zg
theorem AX{c a}{b:World}(d:c<=a)(h):ag c (λk=>k=a) b (b.setCell a h):=
 ⟨(Below.refl _ _).setCell (p:=⟨a,0,none⟩) d _,T_,λk i g f _=>by
  rw[kY (λe=>g e.symm)]
  exact f⟩
def iV(ps:List Prd)(rs:List Rul):List Fct:=if bP ps rs≠0 then[] else dg ps rs
theorem WC(h:p:=by show _=_;rw[ik,if_neg (by rw[hpe];simp)]):p:=h
theorem WD(h:p:=by rw[hW4];exact((Below.refl _ _).alloc (le_refl _) _).alloc (by simp) _):p:=h
theorem WE(h:p:=by rw[hW4];simp[go_sem]):p:=h
theorem Iz(g:World)(M N d f)(W:bR g M d)(l:ck g N f)(ah:dU d):Calls prog 27 #[.agg #[M,N]] g λe al=>∃E,e=.returned (.tuple #[E,.int .i64 (bP d f)])/\kc g.heap.size al E (iV d f)/\Below g g al:=by
 have Q:=hid_ (λr m=>AO r M N d f (bR.a m W) (ck.a m l) ah);have R:Hid (bR g M d/\ck g N f/\dU d):=⟨W,l,ah⟩;obtain⟨w,x,rfl,_⟩:=W;obtain⟨y,z,rfl,_⟩:=l;obtain⟨H,hW1⟩:=ex_ (g.alloc (.cells #[.slice w d x,.slice y f z] 30));have I:Below g g H:=VO;have an:H.cell? g=some (.slice w d x)/\H.cell? ⟨g,1,none⟩=some (.slice y f z)/\g.heap.size<H.heap.size:=Wz;by_cases hpe:bP d f=0
 .have S:=hid_ hpe;have ab:Hid (ik d f=cC (bM d f)):=WC;have aa:Hid (iV d f=cQ d f (ik d f)):=by show _=_;rw[iV,if_neg Ui,dg,ab.out]
  have ao:=hid_ (wN d f);rw[hpe] at Q⊢;rw[aa.out];clear hpe aa ab;generalize ik d f=s at*;refine(callsIn_wide (n:=6)).1 (callsIn_of_wp_marks func27 rfl trivial (wpIn_wide.2 ?_) rfl);simp only[ntmps27,size_toArray,length_cons,length_nil,reduceAdd,reduceSub,replicate_succ,replicate_zero,push_toArray,append_toArray,nil_append,cons_append];go_wp2_with fail;clear hW1;refine mo_ (Q _ I) λi J=>?_;have q:=bt_ I J;obtain⟨av,aw,_⟩:=jL J an;go_wp2_with fail;obtain⟨j,hW3⟩:=ex_ (i.alloc (.cells #[.slice none 0 0] 65));have ac:Below i i j:=by rw[<-hW3];exact bH _ _
  have Y:j.heap.size=i.heap.size+1:=We;have U:Boxed j i 65 (.slice none 0 0):=by rw[<-hW3];exact alloc_heap_new i _
  rw[hW3];clear hW3 av aw;refine mo_ (Ba j w d x y f z (s:Int)) λo hW4=>?_;have ad:Below j j o:=WD;have aP:o.heap.size=j.heap.size+1+1:=by rw[hW4];simp
  have aD:o.cell? ⟨j.heap.size+1,0,none⟩=some (.int .i64 (s:Int)):=WE;have aE:o.cell? j=some (.slice w d x):=WE;have aF:o.cell? ⟨j,1,none⟩=some (.slice y f z):=WE;clear hW4;go_wp2_with fail;have aj:=(q.trans (ac.mono q.size)).trans (ad.mono (q.trans (ac.mono q.size)).size);have au:Boxed o i 65 (.slice none 0 0):=(ad.block _ U.lt).trans U;have ai:=q.size;have ap:=hid_ λr (m:ag g.heap.size (λt=>t=i.heap.size) o r)=>aj.trans m.below;clear U;refine(wpIn_wide (n:=6)).1 (Cc (α:=nU) rfl Q0 (gf:=115) (lb:=#[.pointer (some ⟨i.heap.size+1+1,0,none⟩),.pointer (some ⟨i.heap.size+1,0,none⟩)]) rfl trivial (enters_of func115 SI rfl) (A_ (6-1) Q0 (i.heap.size+1+1) (i.heap.size+1) g (λt=>t=i.heap.size) _ _ d f s o Q0 Q0 (λt K=>Q0) Q0 (by rw[<-Y];exact aD) (by rw[<-Y];exact aE) (by rw[<-Y];exact aF) g rfl aj R.out.1 R.out.2.1 R.out.2.2 S ao.out) ag.a (λk t aB ak K h ax _=>⟨(Below.refl _ k).grown (grownBy_putObj' k t ak) Wj (λaO e=>Wk),aq.b _ ak h ax⟩) (Below.refl _ _) (λ_=>rfl) (λL k=>Boxed k i 65 (nV L)/\ag g.heap.size (λt=>t=i.heap.size) o k) (λL O P X p C l=>⟨boxed_own _ _ (fun(_:Unit)=>_) () O P X p.1 C (λG e=>(l G e).2),uq p.2 C Q0 l⟩) (λam O P X p C l=>⟨p.1,rD p.2.1 C (λG e=>(l G e).2),p.2.2.1,xw p.2.2.2 C (λG e=>(l G e).2)⟩) ⟨au,ag.c _ _ _⟩ (λr V k=>∃A D B,r.2=.slice A D B/\V={tmps:=#[.agg #[.slice w d x,.slice y f z],.pointer (some ⟨g,0,none⟩),.slice none 0 0,.int .i64 0,.int .i64 s,.int .i64 0,.pointer (some ⟨i,0,none⟩),undef,.slice A D B,.tuple #[s,.int .i64 0],.agg #[.slice w d x,.slice y f z],.tuple #[s,.int .i64 0],.int .i64 s,.int .i64 0,.int .i64 0,.bool false,undef,.agg #[.slice w d x,.slice y f z],.int .i64 s,.func (.func 115) #[] #[.pointer (some ⟨i.heap.size+1+1,0,none⟩),.pointer (some ⟨i.heap.size+1,0,none⟩)],.int .i64 r.1,.slice A D B,undef,undef],defers:=[]}) (λr V _ O P X p C l=>p) ?assign ?body ?done)
  case assign=>
   rintro aA L ⟨aC,_⟩ k aH ⟨_,A,D,B,m⟩ ⟨u,F⟩ hK;dsimp only at m;subst m;dsimp only[tR] at hK⊢;gi_wp2;exact hK _ _ (KeepsFrom.refl _ _) (ag.c _ _ _) ⟨u,F⟩ ⟨A,D,B,rfl,rfl⟩
  case body=>
   rintro aA L ⟨aC,_⟩ V k aL _ ⟨u,F⟩ ⟨A,D,B,m,rfl⟩ _;dsimp only at m;subst m;have az:=u.cell;have aN:=u.frozen;gi_wp2_with fail;exact⟨(KeepsOthers.setCell _ _ _).from _,AX ai _,by rw[AY];exact u.set _,F.a (AX ai _)⟩
  rintro Z am k aK ⟨_,ae⟩ ⟨u,F⟩ hK;have az:=u.cell;have T:=hid_ ae;have ar:=hid_ (ap k F);clear ae;generalize nV am=E at*;go_wp2_with fail;show LeavesInM _ _ _ _ _ _ ([Z].map lI) _ _;refine xt g.heap.size [Z] _ Q1 (λaG hD'=>?_) λaI af K=>?_
  .exact abp
  refine⟨.tuple #[E,.int .i64 0],by simp[results,f27,go_sem],?_⟩;exact⟨E,rfl,⟨um T.out.1 (λaJ aB E ay=>K.a (λr=>r) ay) af.size,T.out.2.1,Cl T.out.2.2 K⟩,ar.out.trans af⟩
 have S:Hid (iV d f=[]):=by show _=_;rw[iV,if_pos hpe]
 have aM:(bP d f==0)=false:=SD;rw[S.out];go_enter func27,ntmps27;go_wp2_with fail;clear hW1;refine mo_ (Q _ I) λi J=>?_;have q:=bt_ I J;go_wp2_with fail;refine bodyPost_ret (v:=.tuple #[.slice none 0 0,.int .i64 (bP d f)]) (by simp[results,results27,go_sem]) rfl ?_;exact⟨_,rfl,kc.a _ _,by first|exact q|exact q.alloc q.size _⟩
theorem AR(a:World)(f g b c)(m:bR a f b)(n:ck a g c)(l:dU b):Calls prog 27 #[.agg #[f,g]] a λe h=>∃d,e=.returned (.tuple #[d,.int .i64 (bP b c)])/\bO h d (iV b c)/\Below a a h:=
 (Iz a f g b c m n l).mono λ_ _ ⟨d,i,j,k⟩=>⟨d,i,j.1,k⟩
attribute [local go_sem] semAt_some
def jr(N:Nat)(l:List Nat):List Nat:=(List.range N).map λs=>l.count s
theorem AQ(a l):(jr a l).length=a:=by simp[jr]
theorem Iw(a):jr a []=replicate a 0:=by
 unfold jr;refine ext_getElem Q1 λd b c=>?_;simp
theorem Iv{a l s}(b:s<a):bX (jr a l) s=l.count s:=by
 unfold bX jr;simp[b]
theorem Iy{a l s}:jr a (l++[s])=(jr a l).set s (l.count s+1):=by
 refine ext_getElem (by simp[jr]) λb c d=>?_;rw[List.getElem_set];unfold jr;simp only[List.getElem_map,List.getElem_range,List.count_append];by_cases e:s=b
 .subst e;simp
 rw[if_neg e,List.count_singleton];simp[e]
theorem AP(a b s):∀N,(im a b N).count s=if s<N then eA a b (s:Int) (cQ a b s) else 0
 |0=>by simp[im]
 |N+1=>by
  rw[tS,List.count_append,AP a b s N,List.count_replicate]
  by_cases e:N=s
  .subst e
   rw[if_neg Q0,if_pos Q1,if_pos Q0,zero_add]
  rw[if_neg (c:=(N==s)=true) Vu]
  by_cases d:s<N
  .rw[if_pos d,if_pos Q0,add_zero]
  rw[if_neg d,if_neg Q0]
theorem Ix(b c a):jr a (im b c a)=il b c a:=by
 unfold jr il;refine List.map_congr_left λf d=>?_;rw[AP,if_pos (List.mem_range.1 d)]
theorem Bg{b c}(a:bP b c=0):∀N,(im b c N).length<=N*2000
 |0=>by simp[im]
 |N+1=>by
  rw[tS,length_append,List.length_replicate]
  have:=Bg a N
  have:=wQ (s:=(N:Int)) (kF a N)
  omega
theorem IU{c d:World}{b m l}(p:dq c b m)(s:c.grownBy d l)(v:∀j,l=some j->∃o:Obj,c.heap[j]? =some o/\o.isCells=false):dq d b m:=λk w t=>by
 obtain⟨f,q⟩:=p k w t
 obtain⟨o,i,r⟩:=cells_of_cell f
 have g:d.heap[b]? =c.heap[b]? :=s.block b (Array.getElem?_eq_some_iff.1 i).1 (λe=>by
  obtain⟨x,u,h⟩:=v b e.symm
  have n:=i.symm.trans u
  cases n
  rw[r] at h
  cases h)
 exact⟨(cell?_of_block (a:=⟨b,k,none⟩) g).trans f,(World.frozen?_of_block (a:=⟨b,k,none⟩) g).trans q⟩
theorem AW{c a k}{b:World}(d:c<=a)(h):ag c (λk=>k=a) b (b.setCell ⟨a,k,none⟩ h):=
 ⟨(Below.refl _ _).setCell (p:=⟨a,k,none⟩) d _,T_,λi j g f _=>by
  rw[kY (λe=>g e.symm)]
  exact f⟩
def mK(ps:List Prd)(rs:List Rul):List Nat:=if bP ps rs≠0 then[] else iW ps rs
theorem WF(h:p:=by rw[<-hW3];exact((Below.refl _ _).alloc (le_refl _) _).alloc (by simp) _):p:=h
theorem IA(j:World)(Q S g i)(aa:bR j Q g)(p:ck j S i)(al:dU g):Calls prog 29 #[.agg #[Q,S]] j λe ar=>∃ap,e=.returned (.tuple #[ap,.int .i64 (bP g i)])/\dD ar ap (mK g i)/\Below j j ar:=by
 have V:=hid_ (λy q=>AO y Q S g i (bR.a q aa) (ck.a q p) al);have W:Hid (bR j Q g/\ck j S i/\dU g):=⟨aa,p,al⟩;obtain⟨C,D,rfl,_⟩:=aa;obtain⟨F,G,rfl,_⟩:=p;obtain⟨N,hW1⟩:=ex_ (j.alloc (.cells #[.slice C g D,.slice F i G] 30));have O:Below j j N:=VO;have au:N.cell? j=some (.slice C g D)/\N.cell? ⟨j,1,none⟩=some (.slice F i G)/\j.heap.size<N.heap.size:=Wz;by_cases hpe:bP g i=0
 .have M:=hid_ hpe;have ah:Hid (ik g i=cC (bM g i)):=WC;have af:Hid (mK g i=il g i (ik g i)):=by show _=_;rw[mK,if_neg Ui,iW,ah.out]
  have L:=hid_ (wN g i);have aI:=@xe _ L.out;rw[hpe] at V⊢;rw[af.out];clear hpe af ah;generalize ik g i=d at*;refine(callsIn_wide (n:=6)).1 (callsIn_of_wp_marks func29 rfl trivial (wpIn_wide.2 ?_) rfl);simp only[ntmps29,size_toArray,length_cons,length_nil,reduceAdd,reduceSub,replicate_succ,replicate_zero,push_toArray,append_toArray,nil_append,cons_append];go_wp2_with fail;clear hW1;refine mo_ (V _ O) λf P=>?_;have x:=bt_ O P;obtain⟨aC,aD,_⟩:=jL P au;go_wp2_with fail;obtain⟨o,hW3⟩:=ex_ ((f.alloc (.cells (Array.replicate d (.int .i64 0)) 3)).alloc (.cells #[.slice (some ⟨f,0,none⟩) d d] 68));have aj:Below f f o:=WF;have ac:o.heap.size=f.heap.size+1+1:=We
  have X:Boxed o (f.heap.size+1) 68 (.slice (some ⟨f,0,none⟩) d d):=by
   rw[<-hW3];have:=alloc_heap_new (f.alloc (.cells (Array.replicate d (.int .i64 0)) 3)) (.cells #[.slice (some ⟨f,0,none⟩) d d] 68);rwa[size_alloc] at this
  have ai:dq o f ((jr d []).map fH):=by
   rw[<-hW3,Iw];exact(B_ (w:=f) (n:=d) (t:=3)).a (bH _ _) Q1
  rw[hW3];clear hW3 aC aD aI;refine mo_ (Ba o C g D F i G (d:Int)) λu hW4=>?_;have Z:Below o o u:=WD;have a5:u.heap.size=o.heap.size+1+1:=by rw[hW4];simp
  have aP:u.cell? ⟨o.heap.size+1,0,none⟩=some (.int .i64 (d:Int)):=WE;have aQ:u.cell? o=some (.slice C g D):=WE;have aR:u.cell? ⟨o,1,none⟩=some (.slice F i G):=WE;clear hW4;go_wp2_with fail;have an:=(x.trans (aj.mono x.size)).trans (Z.mono (x.trans (aj.mono x.size)).size);have aB:Boxed u (f.heap.size+1) 68 (.slice (some ⟨f,0,none⟩) d d):=(Z.block _ X.lt).trans X;have aA:=ai.a Z Q0;have am:=x.size;have ax:=hid_ λy (q:ag j.heap.size (λw=>w=f.heap.size) u y)=>an.trans q.below;have aw:Hid ((im g i d).length<=10000):=by show _<=_;have:=Bg M d;have:=L.out;omega
  clear X ai;refine(wpIn_wide (n:=6)).1 (Cc (α:=nU) rfl Q0 (gf:=115) (lb:=#[.pointer (some ⟨f.heap.size+1+1+1,0,none⟩),.pointer (some ⟨f.heap.size+1+1,0,none⟩)]) rfl trivial (enters_of func115 SI rfl) (A_ (6-1) Q0 (f.heap.size+1+1+1) (f.heap.size+1+1) j (λw=>w=f.heap.size) _ _ g i d u Q0 Q0 (λw aH=>Q0) Q0 (by rw[<-ac];exact aP) (by rw[<-ac];exact aQ) (by rw[<-ac];exact aR) j rfl an W.out.1 W.out.2.1 W.out.2.2 M L.out) ag.a (λm w a4 ao aH h aJ _=>⟨(Below.refl _ m).grown (grownBy_putObj' m w ao) Wj (λa3 e=>Wk),aq.b _ ao h aJ⟩) (Below.refl _ _) (λ_=>rfl) (λr m=>Boxed m (f.heap.size+1) 68 (.slice (some ⟨f,0,none⟩) d d)/\dq m f ((jr d (r.map fst)).map fH)/\ag j.heap.size (λw=>w=f.heap.size) u m) (λr T U ab k B p=>⟨boxed_own _ _ (fun(_:Unit)=>_) () T U ab k.1 B (λE e=>(p E e).2),IU k.2.1 B (λE e=>(p E e).2),uq k.2.2 B Q0 p⟩) (λaS T U ab k B p=>⟨k.1,rD k.2.1 B (λE e=>(p E e).2),k.2.2.1,xw k.2.2.2 B (λE e=>(p E e).2)⟩) ⟨aB,aA,ag.c _ _ _⟩ (λy Y m=>y.1<d/\∃A K H,y.2=.slice A K H/\Y={tmps:=#[.agg #[.slice C g D,.slice F i G],.pointer (some ⟨j,0,none⟩),.slice none 0 0,.int .i64 0,.int .i64 d,.int .i64 0,.pointer (some ⟨f.heap.size+1,0,none⟩),.int .i64 y.1,.tuple #[d,.int .i64 0],.agg #[.slice C g D,.slice F i G],.tuple #[d,.int .i64 0],.int .i64 d,.int .i64 0,.int .i64 0,.bool false,undef,.int .i64 d,.slice (some ⟨f,0,none⟩) d d,.agg #[.slice C g D,.slice F i G],.int .i64 d,.func (.func 115) #[] #[.pointer (some ⟨f.heap.size+1+1+1,0,none⟩),.pointer (some ⟨f.heap.size+1+1,0,none⟩)],.int .i64 y.1,.slice A K H,undef,undef,undef,undef,undef,undef,undef],defers:=[]}) (λy Y _ T U ab k B p=>k) ?assign ?body ?done)
  case assign=>
   rintro aO r ⟨s,_⟩ m aU ⟨k,A,K,H,q⟩ ⟨I,z,J⟩ hK;dsimp only at q;subst q;dsimp only[tR] at hK⊢;gi_wp2;exact hK _ _ (KeepsFrom.refl _ _) (ag.c _ _ _) ⟨I,z,J⟩ ⟨k,A,K,H,rfl,rfl⟩
  case body=>
   rintro aO r ⟨s,_⟩ Y m aY _ ⟨I,z,J⟩ ⟨k,A,K,H,q,rfl⟩ aZ;dsimp only at q k;subst q;have aM:=I.cell;obtain⟨aN,a2⟩:=oX z (k:=s) (by rw[AQ];exact k);rw[Iv k] at aN
   have aX:((r.map fst).count s:Int)<=10000:=by
    have aE:=List.count_le_length (a:=s) (l:=r.map fst);rw[length_map] at aE;have:=aw.out;omega
   have a1:(s:Int)<(d:Int):=Q0
   have av:Hid (∀R,R=(((r.map fst).count s:Int)+1)->dq (m.setCell ⟨f,s,none⟩ R) f ((jr d ((r++[(s,Value.slice A K H)]).map fst)).map fH)):=λR aK=>by
    subst aK;rw[map_append];show dq _ _ ((jr d (r.map fst++[s])).map fH);rw[Iy,List.map_set];exact z.b (by rw[length_map,AQ];exact k) _
   generalize(r.map fst).count s=R at*;gi_wp2_with fail;exact⟨(KeepsOthers.setCell _ _ _).from _,AW am _,(kY Q0).trans I,av _ rfl,J.a (AW am _)⟩
  rintro ad aS m aW ⟨aF,_⟩ ⟨I,z,J⟩ hK;rw[aF,Ix] at z;have aM:=I.cell;have ay:=hid_ z;have az:=hid_ (ax m J);have aL:f.heap.size<m.heap.size:=by have:=J.but.size;omega
  have ae:Hid ((il g i d).length=d):=by show _=_;simp[il]
  clear z;go_wp2_with fail;show LeavesInM _ _ _ _ _ _ ([ad].map lI) _ _;refine pT j [ad] _ Q1 (λaT hD'=>?_) λaV ak aG=>?_
  .exact abp
  refine⟨.tuple #[.slice (some ⟨f,0,none⟩) d d,.int .i64 0],by simp[results,f29,go_sem],?_⟩;refine⟨_,rfl,?_,az.out.trans ak⟩;have h:=BD (cap:=d) ay aG (by rw[ae.out];have:=L.out;omega) (lt_of_lt_of_le aL ak.size);rw[ae.out] at h;exact h
 have M:Hid (mK g i=[]):=by show _=_;rw[mK,if_pos hpe]
 have a0:(bP g i==0)=false:=SD;rw[M.out];go_enter func29,ntmps29;go_wp2_with fail;clear hW1;refine mo_ (V _ O) λf P=>?_;have x:=bt_ O P;go_wp2_with fail;refine bodyPost_ret (v:=.tuple #[.slice none 0 0,.int .i64 (bP g i)]) (by simp[results,results29,go_sem]) rfl ?_;exact⟨_,rfl,⟨none,0,rfl,Q1,.inl rfl⟩,by first|exact x|exact x.alloc x.size _⟩
def mN(L:List Nat)(s:Int)(fr:List Fct)(r:Rul)(v:ae)(k:Nat):Bool:=(r.body.take k).any λl=> !l.neg&&decide ((bX L l.atom.pred.toNat:Int)=s)&&(cd fr (bL (cv v l.atom))).isSome
theorem aey(h:p:=by
 go_wp2_with fail
 go_roundw
 case rel=>exact⟨k+1,Q0,Rv,hbr,HT2⟩
 exact S6):p:=h
theorem Lb(g:World)(I J ag f d h)(n:Nat)(b)(s:Int)(av:bR g I f)(U:ck g J d)(an:bO g ag h)(G:bP f d=0)(R:bW f h=0)(ar:n<d.length)(bC:cT b=true):Calls prog 96 #[.agg #[I,J],.agg #[n,b.x,b.y,b.z],s,ag] g λe K=>e=.returned (.bool (ol (bM f d) s h d[n] b))/\Below g g K:=by
 obtain⟨X,aV,aW⟩:=gN (gO G).1;obtain⟨A,B⟩:=iq G;have ba:Hid (∀u,Below g g u->Calls prog 44 #[.agg #[I,J]] u λe K=>(∃b,e=.returned b/\dD K b (bM f d))/\Below u u K):=λu az=>(pX u I J f d (bR.a az av) (ck.a az U) X aV aW).mono λ_ _ ⟨⟨b,bu,O⟩,bv⟩=>⟨⟨b,bu,O _ A⟩,bv⟩;have a3:=lf_ an;have Z:=f_ (eU G _ (getElem_mem ar));have a9:=hid_ (oP R);have Y:Hid (iE f=true/\f.length<=5):=⟨(eR R).2.1,X⟩;have bb:=hid_ bC;have a0:=hid_ Z.2.1;have a6:=hid_ B;obtain⟨aD,aE,rfl,_⟩:=av;obtain⟨aJ,aL,aK,bB,w,Q⟩:=cN U ar;obtain rfl:=bB;obtain⟨b2,b3,rfl,_⟩:=an;obtain⟨aO,⟨cc,aP,bT⟩,aQ,aR,b1,aS,aT⟩:=Q;have a5:=hid_ aT;obtain⟨L,M,rfl,b4,_⟩:=aT;obtain⟨bw,bx,rfl,_⟩:=bT;have b9:(0:Int)<=(n:Int):=Q0;have ca:(n:Int)<(d.length:Int):=Q0;clear U G R Z A B X aV aW;generalize bA:d[n]=c at*;clear bA;obtain⟨j,hW1⟩:=ex_ ((g.alloc (.cells #[.slice aD f aE,.slice (some ⟨aJ,aL,none⟩) d aK] 30)).alloc (.cells #[n,b.x,b.y,b.z] 140));have ab:Below g g j:=Wb;have ch:j.heap.size=g.heap.size+1+1:=UA;have cg:j.cell? g=some (.slice aD f aE):=UB;have bK:j.cell? ⟨g,1,none⟩=some (.slice (some ⟨aJ,aL,none⟩) d aK):=UB;have aF:j.cell? ⟨g.heap.size+1,0,none⟩=some (.int .i64 (n:Int)):=UB;have aG:j.cell? ⟨g.heap.size+1,1,none⟩=some (.int .i64 b.x):=UB;have aH:j.cell? ⟨g.heap.size+1,2,none⟩=some (.int .i64 b.y):=UB;have aI:j.cell? ⟨g.heap.size+1,3,none⟩=some (.int .i64 b.z):=UB;go_enter func96,ntmps96;go_wp2_with fail;clear hW1;refine(ba _ ab).mono ?_;rintro e l ⟨⟨cj,rfl,aw⟩,E⟩;have t:=bt_ ab E;have bj:l.cell? ⟨g,1,none⟩=_:=(bF E Q0).trans bK;have bk:l.cell? ⟨g.heap.size+1,0,none⟩=_:=(bF E Q0).trans aF;have bl:=(bF t w).trans aO;have bm:=(bF t w).trans aP;have bn:=(bF t w).trans aQ;have bo:=(bF t w).trans aR;have N:=(bF t w).trans aS;have a8:=li_ aw;obtain⟨bN,bQ,rfl,_⟩:=aw;clear aO aP aQ aR aS;obtain⟨r,hW3⟩:=ex_ (l.alloc (.cells #[c.head.pred,.slice bw c.head.args bx,c.src,c.n,.slice L c.body M] 58));have D:Below l l r:=by rw[<-hW3];exact bH _ _
 have ci:r.heap.size=l.heap.size+1:=We;have aU:r.cell? ⟨l,4,none⟩=some (.slice L c.body M):=Wf;have bD:=bt_ t D;have ac:=bt_ E D;go_wp2_with fail;clear hW3 bj bk bl bm bn bo N;obtain⟨aX,aj⟩:=ex_ l.heap.size;obtain⟨aY,ak⟩:=ex_ (g.heap.size+1);rw[aj] at aU;rw[ak] at aF aG aH aI;rw[aj,ak];have aA:aX<r.heap.size:=Q0;have H:aY<j.heap.size:=Q0;have ce:=ac.size;go_loopw [11] (λV wr=>∃k:Nat,k<=c.body.length/\V=.int .i64 k/\Below r r wr/\Hid (mN (bM f d) s h c b k=false)) (λV _=>c.body.length-(intOf V).toNat)
 case atStart=>exact⟨0,zero_le _,rfl,Below.refl _ _,rfl⟩
 obtain⟨k,b6,rfl,hbr,au⟩:=hrel;have i:=bt_ bD hbr;have C:=bt_ ac hbr;have N:=(bF hbr aA).trans aU;have bq:=(bF C H).trans aG;have br:=(bF C H).trans aH;have bs:=(bF C H).trans aI;have cf:=lt_of_lt_of_le aA hbr.size;have W:=lt_of_lt_of_le H C.size;by_cases S:k<c.body.length
 .obtain⟨bG,bJ,bI,hlv,F,Q⟩:=cN a5 S;obtain⟨rfl,rfl⟩:L=some ⟨bG,bJ,none⟩/\M=bI:=Vk;obtain⟨aB,A,b0,B,aC⟩:=Q;have a1:=lt_ aC;obtain⟨bV,bY,rfl,_⟩:=aC;have P:=a0 _ (getElem_mem S);obtain⟨ap,ao⟩:=nS (v:=b) P Y.out.1 bb.out;have a4:=hid_ ap;have aa:Hid (eF ⟨c.body[k].atom.pred,bZ b c.body[k].atom.args 0,bZ b c.body[k].atom.args 1,0⟩):=mC Y.out.2 ao;have T:=rB P;obtain⟨e,v⟩:∃e:Nat,c.body[k].atom.pred=(e:Int):=⟨_,T.2⟩;have am:e<(bM f d).length:=by have:=T.1;rw[v] at this;rw[a6.out];simpa using this
  obtain⟨aM,aN,bS,hsv,cb,ah⟩:=cN (a8 wr (D.trans (hbr.mono D.size))) am;obtain⟨rfl,rfl⟩:bN=some ⟨aM,aN,none⟩/\bQ=bS:=VZ;have bt:wr.cell? ⟨aM,aN+e,none⟩=some (.int .i64 ((bM f d)[e]:Int)):=by have:=ah;rwa[mul_one] at this
  have m:Hid (mN (bM f d) s h c b (k+1)=(mN (bM f d) s h c b k||(!c.body[k].neg&&decide (((bM f d)[e]:Int)=s)&&(cd h (bL ⟨c.body[k].atom.pred,bZ b c.body[k].atom.args 0,bZ b c.body[k].atom.args 1,0⟩)).isSome))):=by
   show _=_;unfold mN;rw[j5 S];have:bX (bM f d) c.body[k].atom.pred.toNat=(bM f d)[e]:=by rw[v,toNat_natCast];unfold bX;simp[am]
   rw[this];rfl
  have aZ:Hid (mN (bM f d) s h c b (k+1)=true->ol (bM f d) s h c b=true):=λai=>by
   unfold mN at ai;obtain⟨bE,bz,O⟩:=any_eq_true.1 ai;exact any_eq_true.2 ⟨bE,List.mem_of_mem_take bz,O⟩
  have ad:=(bF i F).trans aB;have af:=(bF i F).trans A;have bp:=(bF i F).trans B;have aq:=lt_of_lt_of_le F i.size;have b7:(0:Int)<=(k:Int):=Q0;have b8:(k:Int)<(c.body.length:Int):=Q0;have b5:(e:Int)<((bM f d).length:Int):=Q0;have a2:=hid_ v;rw[v] at af;clear hlv aB A B ap ao P T v hsv ah;generalize c.body[k]=q at*;rw[au.out,Bool.false_or] at m;cases o:q.neg
  .rw[o] at ad;cases p:decide (((bM f d)[e]:Int)=s)
   .have ay:(((bM f d)[e]:Int)==s)=false:=by simpa using p
    have HT2:Hid (mN (bM f d) s h c b (k+1)=false):=by show _=_;rw[m.out,p];simp
    clear m o p;exact aey
   have ay:(((bM f d)[e]:Int)==s)=true:=by simpa using p
   have ax:=by simpa using p
   have HT2:Hid (mN (bM f d) s h c b (k+1)=(cd h (bL ⟨q.atom.pred,bZ b q.atom.args 0,bZ b q.atom.args 1,0⟩)).isSome):=by show _=_;rw[m.out,p,o];simp
   rw[ax] at bt;clear m o p ay ax;rw[a2.out] at HT2 aa;go_wp2_with fail;have bd:=lo_ Q0 N;have be:=lo_ aq af;have bf:=lo_ aq bp;have bg:=lo_ W bq;have bh:=lo_ W br;have bi:=lo_ W bs;refine dz wr.heap.size SI SI ?_
   repeat(go_big_quiet_step (first
    |(go_at_call 143;exact dy (xC _ _ _ q.atom.args b (a1 _ (i.trans ((Low.low _).mono i.size))) a4.out))
    |(go_at_call 99;exact dy (vS _ _ h _ _ _ _ (a3 _ (i.trans ((Low.low _).mono i.size))) a9 aa.out))))
   refine wpQuiet_nil ?_;rintro cl ⟨⟨_,al⟩,rfl⟩;clear bd be bf bg bh bi;generalize(cd h (bL ⟨(e:Int),bZ b q.atom.args 0,bZ b q.atom.args 1,0⟩)).isSome=bU at*;cases bU
   .go_wp2_with fail;go_roundw
    case rel=>exact⟨k+1,Q0,Rv,hbr.trans (al.mono hbr.size),HT2⟩
    exact S6
   have bc:=hid_ (aZ HT2.out);go_wp2_with fail;go_ret;exact⟨by rw[bc.out];rfl,i.trans (al.mono i.size)⟩
  rw[o] at ad;have HT2:Hid (mN (bM f d) s h c b (k+1)=false):=by show _=_;rw[m.out,o];simp
  clear m o;exact aey
 obtain rfl:k=c.body.length:=Q0
 have a7:Hid (ol (bM f d) s h c b=false):=by
  have:=au.out;unfold mN at this;rw[take_length] at this;exact this
 go_wp2_with fail;go_ret;exact⟨by rw[a7.out];rfl,i⟩
def lZ(ps:List Prd)(rs:List Rul)(f:List Fct)(s:Stp):Bool:=match rs[s.rule.toNat]? with
 |none=>false
 |some r=>kv ps r f s.a
theorem Qz{c:List Prd}{b:List Rul}{f:List Fct}{s:Stp}(r:bS c b f=0):
 (f9 c b f s.rule s.a≠0->jl b f s=f9 c b f s.rule s.a)/\(f9 c b f s.rule s.a=0->iF c b f s.rule s.a=false->jl b f s=1)/\
  (f9 c b f s.rule s.a=0->iF c b f s.rule s.a=true->jl b f s=0/\jG c f (gL c b f s.rule s.a)=(ku c b f s,lZ c b f s,0)):=by
 obtain⟨hpe,m⟩:=cZ r
 by_cases i:0<=s.rule/\s.rule<(b.length:Int)
 .have h:ev c b f s.rule=0:=by rw[ev,if_neg Ui,if_neg (by rw[m];simp),if_pos i]
  obtain⟨g,n⟩:∃g:Nat,s.rule=(g:Int):=⟨s.rule.toNat,Q0⟩
  have k:g<b.length:=Q0
  cases j:cT s.a
  .have d:f9 c b f s.rule s.a=3:=by rw[f9,if_neg (by rw[h];simp),if_neg (by rw[j];simp)]
   rw[d]
   refine⟨λ_=>?_,λe=>T8,λe=>T8⟩
   rw[jl,if_pos i,if_neg (by rw[j];simp)]
  have d:f9 c b f s.rule s.a=0:=by rw[f9,if_neg (by rw[h];simp),if_pos j]
  have o:iF c b f s.rule s.a=cS f s.a b[g].body:=by rw[iF,if_neg (by rw[d];simp),n,toNat_natCast,getElem?_eq_getElem k];rfl
  have p:jl b f s=if cS f s.a b[g].body then 0 else 1:=by rw[jl,if_pos i,if_pos j,n,toNat_natCast,getElem?_eq_getElem k];rfl
  rw[d,o,p]
  refine⟨λe=>absurd rfl e,λ_ l=>by rw[l];rfl,λ_ l=>⟨by rw[l];rfl,?_⟩⟩
  have q:gL c b f s.rule s.a=co c f b[g] s.a:=by rw[gL,if_neg (by rw[d];simp),n,toNat_natCast,getElem?_eq_getElem k];show dl _ _ _ _=_;rw[dl,if_pos l]
  rw[q,xo m (kZ (eU hpe _ (getElem_mem k)) m j),ku,lZ,n,toNat_natCast,getElem?_eq_getElem k]
  rfl
 have h:ev c b f s.rule=7:=by rw[ev,if_neg Ui,if_neg (by rw[m];simp),if_neg i]
 have d:f9 c b f s.rule s.a=7:=by rw[f9,if_pos (by rw[h];simp),h]
 rw[d]
 exact⟨λ_=>by rw[jl,if_neg i],λe=>T8,λe=>T8⟩
theorem WH(h:p:=by simp[results,results169,go_sem]):p:=h
theorem Yi(h:p:=by first|with_reducible exact Below.refl _ _|with_reducible exact Below.drew (Below.refl _ _)|with_reducible exact hk7):p:=h
theorem ZI(h:p:=by
 have kw7:=bt_ kw6 hk7
 obtain⟨c0,c1,c2,cz⟩:=HC _ kw7
 have HF7:=hid_ hf7
 clear hf7
 go_wp2_with fail
 refine bodyPost_ret (v:=.tuple #[.bool (lZ ps rs f s),.int .i64 0]) WH rfl ?_
 exact⟨rfl,W7,kw7,_,HF7.out,hn7,rfl⟩):p:=h
theorem ZX(h:p:=by
 obtain⟨d0,_,d2,_⟩:=HC w' (kw6.trans (hx.mono kw6.size))
 have hy:=tC y0
 exact⟨d0,d2,(bF hx hy).trans y0,(bF hx hy).trans y1,(bF hx hy).trans y2,(bF hx hy).trans y3⟩):p:=h
theorem Z0(h:p:=by
 have kx:=bt_ kw6 hx
 have h:=HA x y kx
 rw[hadd] at h
 refine h.mono ?_
 rintro e w' ⟨u,he,hf,hc,hb⟩
 obtain⟨a,n,c,rfl,_⟩:=id hc.1
 exact⟨a,n,c,he,hf,hc.a kx.size,hb⟩):p:=h
theorem aaj(h:p:=by
 obtain rfl:SE=1:=H2 rfl rfl
 go_wp2_with fail
 refine bodyPost_ret (v:=.tuple #[.bool false,.int .i64 1]) WH rfl ?_
 exact⟨rfl,kw6⟩):p:=h
theorem QP(g:World)(j:Nat)(w G r:Value)(ps:List Prd)(rs:List Rul)(f:List Fct)(s:Stp)(c0:g.cell? j=some w)(c1:g.cell? ⟨j,1,none⟩=some G)(c2:g.cell? ⟨j,2,none⟩=some r)(cz:g.frozen? ⟨j,2,none⟩=false)(L:bR g w ps)(S:ck g G rs)(hf:bO g r f)(Q:eQ r)(R:dU ps)(he:bS ps rs f=0):
 Calls prog 169 #[.pointer (some ⟨j,0,none⟩),.agg #[s.rule,s.x,s.y,s.z]] g λe w'=>
  (jl rs f s≠0/\e=.returned (.tuple #[.bool false,.int .i64 (jl rs f s)])/\Below g g w')\/
  (jl rs f s=0/\∃d u,e=.returned (.tuple #[.bool (lZ ps rs f s),.int .i64 0])/\Below g g d/\bO d u (ku ps rs f s)/\fW g u/\w'=d.setCell ⟨j,2,none⟩ u):=by
 have N:Hid (∀x,Below g g x->Calls prog 198 #[.agg #[w,G],r,s.rule,.agg #[s.x,s.y,s.z]] x λe w'=>e=.returned (.tuple #[.bool (iF ps rs f s.rule s.a),.agg #[.int .i64 (gL ps rs f s.rule s.a).pred,.int .i64 (gL ps rs f s.rule s.a).a,.int .i64 (gL ps rs f s.rule s.a).b,.int .i64 (gL ps rs f s.rule s.a).val],.int .i64 (f9 ps rs f s.rule s.a)])/\Below x x w'):=λx hx=>wh x w G r ps rs f s.rule s.a (bR.a hx L) (ck.a hx S) (bO.a hx hf) R
 have HA:Hid (∀x (y:Fct),Below g g x->Calls prog 157 #[w,r,.agg #[y.pred,y.a,y.b,y.val]] x λe w'=>∃u,e=.returned (.tuple #[u,.bool (jG ps f y).2.1,.int .i64 (jG ps f y).2.2])/\bO w' u (jG ps f y).1/\fW x u/\Below x x w'):=λx y hx=>zt x w r ps f y.pred y.a y.b y.val (bR.a hx L) (bO.a hx hf) Q
 have Z:=Qz (s:=s) he
 obtain⟨D,H2,E⟩:=Z
 have A:=tC c0
 have HC:=hid_ λx (hx:Below g g x)=>an_ ((bF hx A).trans c0) (an_ ((bF hx A).trans c1) (an_ ((bF hx A).trans c2) (((fR hx).2 _ _ A).trans cz)))
 obtain⟨p,q,rfl,_⟩:=L
 obtain⟨T,U,rfl,_⟩:=S
 obtain⟨m,o,rfl,_⟩:=hf
 clear he R Q
 generalize iF ps rs f s.rule s.a=P at*
 generalize f9 ps rs f s.rule s.a=C at*
 generalize gL ps rs f s.rule s.a=y at*
 generalize jl rs f s=SE at*
 obtain⟨d,hW1⟩:=ex_ (g.alloc (.cells #[s.rule,s.x,s.y,s.z] 140))
 have t:Below g g d:=VO
 have B:g.heap.size<d.heap.size:=UA
 have ah:=Nat.lt_trans A B
 obtain⟨V,W,X,Y⟩:d.cell? g=some (.int .i64 s.rule)/\d.cell? ⟨g,1,none⟩=some (.int .i64 s.x)/\d.cell? ⟨g,2,none⟩=some (.int .i64 s.y)/\d.cell? ⟨g,3,none⟩=some (.int .i64 s.z):=UB
 have aa:Hid (∀w':World,Below d d w'->w'.cell? j=some (.slice p ps q)/\w'.cell? ⟨j,1,none⟩=some (.slice T rs U)/\w'.cell? ⟨j,2,none⟩=some (.slice m f o)/\w'.cell? g=some (.int .i64 s.rule)/\w'.cell? ⟨g,1,none⟩=some (.int .i64 s.x)/\w'.cell? ⟨g,2,none⟩=some (.int .i64 s.y)/\w'.cell? ⟨g,3,none⟩=some (.int .i64 s.z)):=λw' hx=>by
  obtain⟨d0,ac,d2,_⟩:=HC w' (t.trans (hx.mono t.size))
  exact⟨d0,ac,d2,(bF hx B).trans V,(bF hx B).trans W,(bF hx B).trans X,(bF hx B).trans Y⟩
 have KA:Hid (Below d d (d.alloc (.cells #[.int .i64 0,.int .i64 0,.int .i64 0,.int .i64 0] 93))):=bH _ _
 have KS:=hid_ λx (hx:Below d d x) y0 y1 y2 y3=>tB hx y0 y1 y2 y3
 have ab:=hid_ λx (hx:Below (d.alloc (.cells #[.int .i64 0,.int .i64 0,.int .i64 0,.int .i64 0] 93)).drew.heap.size (d.alloc (.cells #[.int .i64 0,.int .i64 0,.int .i64 0,.int .i64 0] 93)).drew x)=>tK hx
 have O:=hid_ λx (hx:Below d d x)=>N x (t.trans (hx.mono t.size))
 go_enter func169,ntmps169
 go_wp2_with fail
 clear hW1 c0 c1 c2 cz V W X Y N
 go_region_held3 (λw'=>w'.cell? j=some (.slice p ps q)/\w'.cell? ⟨j,1,none⟩=some (.slice T rs U)/\w'.cell? ⟨j,2,none⟩=some (.slice m f o)/\w'.cell? g=some (.int .i64 s.rule)/\w'.cell? ⟨g,1,none⟩=some (.int .i64 s.x)/\w'.cell? ⟨g,2,none⟩=some (.int .i64 s.y)/\w'.cell? ⟨g,3,none⟩=some (.int .i64 s.z)) (first|(refine aa _ ?_;exact Yg)) (first|(go_at_call 198;refine(O _ (KA.out.drew)).mono ?_;rintro J k ⟨rfl,F⟩;have hk:Below d d k:=KA.out.trans ((((Below.refl _ _).drew).trans F).mono KA.out.size);obtain⟨z0,z1,z2,z3,zf⟩:=ab _ F)|(go_at_call 198;refine(O _ (Below.drew (Below.refl _ _))).mono ?_;rintro J k ⟨rfl,F⟩;have hk:Below d d k:=((Below.refl _ _).drew).trans F))
 .obtain⟨i,hW6⟩:=ex_ (k.alloc (.cells #[y.pred,y.a,y.b,y.val] 93))
  have M:Below d d i:=Vm
  obtain⟨y0,y1,y2,y3⟩:i.cell? k=some (.int .i64 y.pred)/\i.cell? ⟨k,1,none⟩=some (.int .i64 y.a)/\i.cell? ⟨k,2,none⟩=some (.int .i64 y.b)/\i.cell? ⟨k,3,none⟩=some (.int .i64 y.val):=Vn
  rw[hW6]
  clear hW6
  have kw6:=bt_ t M
  obtain⟨c0,c1,c2,cz⟩:=HC _ kw6
  by_cases l:C=0
  .subst l
   cases P
   .exact aaj
   obtain⟨rfl,hadd⟩:=E rfl rfl
   have H:Hid (∀x,Below i i x->Calls prog 157 #[.slice p ps q,.slice m f o,.agg #[y.pred,y.a,y.b,y.val]] x λe w'=>∃a n c,e=.returned (.tuple #[.slice a n c,.bool (lZ ps rs f s),.int .i64 0])/\bO w' (.slice a n c) (ku ps rs f s)/\fW g (.slice a n c)/\Below x x w'):=λx hx=>by
    exact Z0
   have I:Hid (∀w':World,Below i i w'->w'.cell? j=some (.slice p ps q)/\w'.cell? ⟨j,2,none⟩=some (.slice m f o)/\w'.cell? k=some (.int .i64 y.pred)/\w'.cell? ⟨k,1,none⟩=some (.int .i64 y.a)/\w'.cell? ⟨k,2,none⟩=some (.int .i64 y.b)/\w'.cell? ⟨k,3,none⟩=some (.int .i64 y.val)):=λw' hx=>by
    exact ZX
   clear D H2 E hadd
   go_wp2_with fail
   clear c0 c1 c2 cz y0 y1 y2 y3
   go_region_held3 (λw'=>w'.cell? j=some (.slice p ps q)/\w'.cell? ⟨j,2,none⟩=some (.slice m f o)/\w'.cell? k=some (.int .i64 y.pred)/\w'.cell? ⟨k,1,none⟩=some (.int .i64 y.a)/\w'.cell? ⟨k,2,none⟩=some (.int .i64 y.b)/\w'.cell? ⟨k,3,none⟩=some (.int .i64 y.val)) (first|(refine I _ ?_;exact Yi)) (first|(go_at_call 157;refine(H _ (Below.drew (Below.refl _ _))).mono ?_;rintro J W7 ⟨ae,ag,af,rfl,hf7,hn7,K⟩;have hk7:Below i i W7:=((Below.refl _ _).drew).trans K))
   exact ZI
  have ad:(C==0)=false:=by simpa using l
  obtain rfl:=D l
  go_wp2_with fail
  refine bodyPost_ret (v:=.tuple #[.bool false,SE]) WH rfl ?_
  first|exact .inl ⟨l,rfl,kw6⟩|exact⟨rfl,kw6⟩
 obtain⟨i,hW6⟩:=ex_ ((((k.setCell d y.pred).setCell ⟨d,1,none⟩ y.a).setCell ⟨d,2,none⟩ y.b).setCell ⟨d,3,none⟩ y.val)
 have M:Below d d i:=Vo
 obtain⟨y0,y1,y2,y3⟩:i.cell? d=some (.int .i64 y.pred)/\i.cell? ⟨d,1,none⟩=some (.int .i64 y.a)/\i.cell? ⟨d,2,none⟩=some (.int .i64 y.b)/\i.cell? ⟨d,3,none⟩=some (.int .i64 y.val):=Vp
 rw[hW6]
 clear hW6
 have kw6:=bt_ t M
 obtain⟨c0,c1,c2,cz⟩:=HC _ kw6
 by_cases l:C=0
 .subst l
  cases P
  .exact aaj
  obtain⟨rfl,hadd⟩:=E rfl rfl
  have H:Hid (∀x,Below i i x->Calls prog 157 #[.slice p ps q,.slice m f o,.agg #[y.pred,y.a,y.b,y.val]] x λe w'=>∃a n c,e=.returned (.tuple #[.slice a n c,.bool (lZ ps rs f s),.int .i64 0])/\bO w' (.slice a n c) (ku ps rs f s)/\fW g (.slice a n c)/\Below x x w'):=λx hx=>by
   exact Z0
  have I:Hid (∀w':World,Below i i w'->w'.cell? j=some (.slice p ps q)/\w'.cell? ⟨j,2,none⟩=some (.slice m f o)/\w'.cell? d=some (.int .i64 y.pred)/\w'.cell? ⟨d,1,none⟩=some (.int .i64 y.a)/\w'.cell? ⟨d,2,none⟩=some (.int .i64 y.b)/\w'.cell? ⟨d,3,none⟩=some (.int .i64 y.val)):=λw' hx=>by
   exact ZX
  clear D H2 E hadd
  go_wp2_with fail
  clear c0 c1 c2 cz y0 y1 y2 y3
  go_region_held3 (λw'=>w'.cell? j=some (.slice p ps q)/\w'.cell? ⟨j,2,none⟩=some (.slice m f o)/\w'.cell? d=some (.int .i64 y.pred)/\w'.cell? ⟨d,1,none⟩=some (.int .i64 y.a)/\w'.cell? ⟨d,2,none⟩=some (.int .i64 y.b)/\w'.cell? ⟨d,3,none⟩=some (.int .i64 y.val)) (first|(refine I _ ?_;exact Yi)) (first|(go_at_call 157;refine(H _ (Below.drew (Below.refl _ _))).mono ?_;rintro J W7 ⟨ae,ag,af,rfl,hf7,hn7,K⟩;have hk7:Below i i W7:=((Below.refl _ _).drew).trans K))
  exact ZI
 have ad:(C==0)=false:=by simpa using l
 obtain rfl:=D l
 go_wp2_with fail
 refine bodyPost_ret (v:=.tuple #[.bool false,SE]) WH rfl ?_
 first|exact .inl ⟨l,rfl,kw6⟩|exact⟨rfl,kw6⟩
def ib(x:World)(B:Nat)(pv rv u:Value):Prop:=x.heap[B]? =some (.cells #[pv,rv,u] 172 (0,0))
theorem nO{b:World}{a d f g}(c:ib b a d f g):b.cell? a=some d/\b.cell? ⟨a,1,none⟩=some f/\b.cell? ⟨a,2,none⟩=some g/\b.frozen? ⟨a,2,none⟩=false/\a<b.heap.size:=by
 unfold ib at c;refine⟨by simp[cell?,c],by simp[cell?,c],by simp[cell?,c],frozen_of_row b a 2 _ _ c,(Array.getElem?_eq_some_iff.1 c).1⟩
theorem Qq{c:World}{a d f h}(g:ib c a d f h)(b):ib (c.setCell ⟨a,2,none⟩ b) a d f b:=heap_setCell_same c a 2 _ _ b g
theorem pu{a h:World}{b d f g}(i:Below a a h)(c:ib a b d f g):ib h b d f g:=(i.block _ (nO c).2.2.2.2).trans c
theorem Qu{h:World}{d v f g o}(k:bO h d f)(a:∀b,d.ownBlock=some b->b≠g):bO (h.setCell ⟨g,o,none⟩ v) d f:=by
 obtain⟨i,j,rfl,n,c⟩:=k;refine⟨i,j,rfl,n,?_⟩;rcases c with c|⟨b,q,rfl,l,c⟩
 .exact .inl c
 have a:=a b rfl;refine .inr ⟨b,q,rfl,by rw[cF];exact l,λp w m=>?_⟩;obtain⟨r,s,t,u⟩:=c p w m;exact⟨by rw[cb (Ne.symm a)];exact r,by rw[cb (Ne.symm a)];exact s,by rw[cb (Ne.symm a)];exact t,by rw[cb (Ne.symm a)];exact u⟩
def kU(Bo:Nat)(W:World)(k:Nat):Prop:=∃v,W.cell? Bo=some v/\v.ownBlock=some k
def yY(Bo:Nat)(W:World):Prop:=∃v,W.cell? Bo=some v/\∀k,v.ownBlock=some k->k<W.heap.size
theorem yY.a{c k}{b:World}(f:yY c b)(j:kU c b k):k<b.heap.size:=by
 obtain⟨m,g,h⟩:=f;obtain⟨l,d,i⟩:=j;rw[g] at d;cases d
 exact h k i
structure Zed (n₀ Bo:Nat) (X:Nat->Prop) (A B:World):Prop where
 below:Below n₀ A B
 size:A.heap.size<=B.heap.size
 same:∀(k:Nat) (o:Obj),¬X k->k≠Bo->¬kU Bo A k->A.heap[k]? =some o->o.isCells=true->B.heap[k]? =some o
 own:∀k,kU Bo B k->kU Bo A k\/A.heap.size<=k
theorem Zed.e(f c)(d:Nat->Prop)(b:World):Zed f c d b b:=⟨Below.refl _ _,le_refl _,λ_ _ _ _ _ a _=>a,λ_ a=>.inl a⟩
theorem Zed.a{l d}{j:Nat->Prop}{g i m:World}(c:Zed l d j g i)(k:Zed l d j i m):Zed l d j g m:=by
 have s:∀b,b<g.heap.size->¬kU d g b->¬kU d i b:=λb f r h=>by
  rcases c.own b h with h1|h1
  .exact r h1
  omega
 refine⟨c.below.trans k.below,le_trans c.size k.size,λb q p n o f h=>?_,λb f=>?_⟩
 .exact k.same b q p n (s b (Array.getElem?_eq_some_iff.1 f).1 o) (c.same b q p n o f h) h
 rcases k.own b f with h1|h1
 .exact c.own b h1
 exact .inr (le_trans c.size h1)
theorem Zed.d{i f}{g h:Nat->Prop}{b c:World}(a:Zed i f g b c)(j:∀k,g k->h k):Zed i f h b c:=⟨a.below,a.size,λk o m=>a.same k o (λl=>m (j k l)),a.own⟩
theorem Zed.c{j g}{k:Nat->Prop}{a f:World}(b:Below a a f)(m:j<=a.heap.size)(l:g<a.heap.size):Zed j g k a f:=
 ⟨b.mono m,b.size,λi o _ _ _ d _=>(b.block i (Array.getElem?_eq_some_iff.1 d).1).trans d,λi ⟨n,h,d⟩=>.inl ⟨n,by rw[bF b l] at h;exact h,d⟩⟩
theorem Zed.f{i d a o}{g:Nat->Prop}(c:World)(q)(k:i<=a)(l:a≠d)(j:g a):Zed i d g c (c.setCell ⟨a,o,none⟩ q):=
 ⟨(Below.refl _ _).setCell (p:=⟨a,o,none⟩) k _,T_,λn s m _ _ b _=>by
  rw[kY (λe=>m (by rw[<-e];exact j))]
  exact b,λn ⟨r,h,b⟩=>.inl ⟨r,by rw[cb l] at h;exact h,b⟩⟩
theorem Zed.b{r f}{h:Nat->Prop}{d g:World}(l:Zed r f h d g){c o k}(q:¬h c)(m:c≠f)(p:¬kU f d c)(i:d.cell? ⟨c,o,none⟩=some k):g.cell? ⟨c,o,none⟩=some k:=by
 obtain⟨s,j,n⟩:=cells_of_cell i;exact(cell?_of_block (a:=⟨c,o,none⟩) ((l.same c s q m p j n).trans j.symm)).trans i
def jF(Bo BC:Nat)(W:World)(v:Value):Prop:=∀b,v.ownBlock=some b->b≠BC/\b≠Bo/\¬kU Bo W b
theorem Zp(h:p:=by
 obtain⟨a,cap,rfl,hl,hx⟩:=hf
 refine⟨a,cap,rfl,hl,?_⟩
 rcases hx with hx|⟨b,off,rfl,hb,hx⟩
 .exact .inl hx
 obtain⟨n1,n2,n3⟩:=hv b rfl
 exact .inr ⟨b,off,rfl,lt_of_lt_of_le hb h.size,λi x hi=>⟨h.b n1 n2 n3 (hx i x hi).1,h.b n1 n2 n3 (hx i x hi).2.1,h.b n1 n2 n3 (hx i x hi).2.2.1,h.b n1 n2 n3 (hx i x hi).2.2.2⟩⟩):p:=h
theorem Qv{m j g}{c f:World}{d l}(h:Zed m j (λk=>k=g) c f)(hv:jF j g c d)(hf:bO c d l):bO f d l:=by
 exact Zp
theorem QH{m j g}{c f:World}{d l}(h:Zed m j (λk=>k=g) c f)(hv:jF j g c d)(hf:cL c d l):cL f d l:=by
 exact Zp
theorem Qy{q c g}{i:Nat->Prop}{b f:World}{d}(j:Zed q c i b f)(m:jF c g b d)(l:∀a,d.ownBlock=some a->a<b.heap.size):jF c g f d:=λa h=>by
 obtain⟨n,o,p⟩:=m a h
 refine⟨n,o,λk=>?_⟩
 rcases j.own a k with h1|h1
 .exact p h1
 have:=l a h
 omega
theorem Ft{d g}{b f:World}{i}(k:yY d b)(m:Below b b f)(r:g<b.heap.size)(l:d<b.heap.size)(o:∀c,i.ownBlock=some c->b.heap.size<=c):jF d g f i:=λc j=>by
 have q:=o c j
 refine⟨Q0,Q0,fun⟨p,h,n⟩=>?_⟩
 rw[bF m l] at h
 have:=k.a ⟨p,h,n⟩
 omega
theorem QC{d:World}{c l}(f:bO d c l)(n:eQ c)(h:l≠[]):∀a,c.ownBlock=some a->a<d.heap.size:=λa g=>by
 obtain⟨i,k,rfl,_,b⟩:=f
 rcases b with b|⟨j,o,rfl,m,_⟩
 .exact absurd b h
 simp only[ownBlock,injEq] at g
 omega
attribute [local go_sem] semAt_some
def ze(s:Stp):Array Value:=#[.agg #[s.rule,s.x,s.y,s.z]]
theorem QE{ps c f b}{k:Nat}(d:k<c.length)(g:b.rule=(k:Int))(i:cT b.a=true)(h:cS f b.a c[k].body=true):jl c f b=0/\ku ps c f b=lx ps c[k] f b.a/\lZ ps c f b=kv ps c[k] f b.a:=by
 refine⟨?_,?_,?_⟩
 .rw[jl,if_pos ⟨Q0,Q0⟩,if_pos i,g,toNat_natCast,getElem?_eq_getElem d];show(if cS f b.a c[k].body=true then _ else _)=_;rw[if_pos h]
 .rw[ku,g,toNat_natCast,getElem?_eq_getElem d]
 rw[lZ,g,toNat_natCast,getElem?_eq_getElem d]
theorem Qn(a:Int->Int)(b):∀f:List Fct,cy a b f≠[]
 |[]=>by simp[cy]
 |y::f=>by
  rw[cy]
  split
  .simp
  split<;>simp
theorem Qx{b a o}{c:World}{f p}(k:a≠b)(h:jF b a c f):jF b a (c.setCell ⟨a,o,none⟩ p) f:=λg i=>by
 obtain⟨l,m,n⟩:=h g i
 exact⟨l,m,fun⟨q,d,j⟩=>n ⟨q,by rw[cb k] at d;exact d,j⟩⟩
theorem y6(a b s f):∀{n m:Nat},n<=m->(d8 a b s f n).length<=(d8 a b s f m).length
 |n,0,c=>by rw[show n=0 by omega];exact le_refl _
 |n,m+1,c=>by
  by_cases e:n=m+1
  .rw[e];exact le_refl _
  rw[d8,length_append]
  exact le_trans (y6 a b s f (n:=n) (m:=m) Q0) (Nat.le_add_right _ _)
theorem y9(b c):∀(l:List Stp) (f:List Fct) (a:Nat),(dH b c f (l.take a)).length<=(dH b c f l).length
 |[],f,a=>Q1
 |t::l,f,0=>by simp[dH]
 |t::l,f,a+1=>by
  rw[List.take_succ_cons,dH,dH,length_append,length_append]
  exact Nat.add_le_add_left (y9 b c l _ a) _
theorem Qo(n:Nat)(hn:1<=n)(af az g m v:Nat)(J L X:Value)(a7:Nat)(cv:Array Value)(ps:List Prd)(rs:List Rul)(s:Int)(j:List Fct)(r:World)(bo:m<r.heap.size)(cl:v<=r.heap.size)(c2:v<=g)(bd:g≠m)(b5:¬kU m r g)(b9:af≠g)(b8:af≠m)(ca:¬kU m r af)(cf:az≠g)(cd:az≠m)(cg:¬kU m r az)(b6:r.cell? af=some (.pointer (some ⟨g,0,none⟩)))(b7:r.cell? az=some (.func (.func a7) #[] cv))(bb:ib r g J L X)(cc:bO r X j)(cr:eQ X)(ch:jF m g r X)(ay:World)(hw₀:ay.heap.size=v)(hb₀:Below v ay r)(cm:bR ay J ps)(bz:ck ay L rs)(bA:dU ps)(bc:bS ps rs j=0)(dT:∀bZ r,(callFunc a7 bZ).run prog r=.ok (.enter a7 bZ) r)(ct:∀(i:World) (n:Nat) (hn:n<rs.length) (aN:Option Addr) (Q:Nat) (aG:Option Addr) (aH:Nat),Zed v m (λk=>k=g) r i->Calls prog a7 (#[.agg #[.int .i64 rs[n].head.pred,.slice aN rs[n].head.args.length Q,.int .i64 rs[n].src,.int .i64 rs[n].n,.slice aG rs[n].body.length aH]]++cv) i λe t=>e=.returned (.bool (ce (bM ps rs) s rs[n]))/\Below i i t):
 Ca Fence.wide n prog 167 #[.pointer (some ⟨af,0,none⟩),.pointer (some ⟨az,0,none⟩)] ze (λ_ _=>True) (Zed v m (λ_=>False)) (λA ae=>∃l,ae=A.setCell ⟨g,2,none⟩ l) (yY m) (λdI bi=>dI=cX ps rs s j/\∃l ax,ib bi g J L l/\bO bi l (fQ ps rs s j)/\eQ l/\bi.cell? m=some ax/\(∀q,l.ownBlock=some q->q≠g/\q≠m/\ax.ownBlock≠some q)) (cX ps rs s j).length r:=λd5 a1 aD aM c4 b4 bq dc c0=>by
 have hpe:=(cZ bc).1
 have dh:=eU hpe
 have bU:Hid (Zed v m (λk=>k=g) r aD):=Zed.c aM cl bo
 have bV:Hid (∀i,Zed v m (λk=>k=g) r i->Below ay ay i):=λi hx=>VT
 have aB:=hid_ λi (hx:Zed v m (λk=>k=g) r i)=>an_ (bR.a (bV i hx) cm) (ck.a (bV i hx) bz)
 have aA:=hid_ λi (hx:Zed v m (λk=>k=g) r i)=>an_ (hx.b b9 b8 ca b6) (hx.b cf cd cg b7)
 have bL:Hid (∀i l f n,(hn:n<rs.length)->bS ps rs f=0->bO i l f->Zed v m (λk=>k=g) r i->Calls prog 168 #[.agg #[J,L],l,n] i λe t=>(∃M,e=.returned (.tuple #[M,.int .i64 0])/\cL t M (bI f rs[n] n)/\∀q,M.ownBlock=some q->i.heap.size<=q)/\Below i i t):=λi l f n hn bu aQ hx=>by
  have h:=wg i J L l ps rs f n (aB i hx).1 (aB i hx).2 aQ bA
  have e:ev ps rs f n=0:=by rw[ev,if_neg Ui,if_neg (by rw[(cZ bu).2];simp),if_pos Q0]
  exact abB
 have cS:Hid (∀i l f (W:Stp),jl rs f W=0->ib i g J L l->bO i l f->eQ l->bS ps rs f=0->Zed v m (λk=>k=g) r i->Calls prog 169 #[.pointer (some ⟨g,0,none⟩),.agg #[W.rule,W.x,W.y,W.z]] i λe t=>∃bj D,e=.returned (.tuple #[.bool (lZ ps rs f W),.int .i64 0])/\Below i i bj/\bO bj D (ku ps rs f W)/\fW i D/\t=bj.setCell ⟨g,2,none⟩ D):=λi l f W dj Q aQ dk bu hx=>by
  obtain⟨aI,aJ,cT,cU,_⟩:=nO Q
  refine(QP i g J L l ps rs f W aI aJ cT cU (aB i hx).1 (aB i hx).2 aQ dk bA bu).mono ?_
  rintro e t (⟨P,_⟩|⟨_,au⟩)
  .exact absurd dj P
  exact au
 have bW:=hid_ ct
 have aC:=hid_ λbD A ae (P:a1 bD A)(au:Below A A ae)=>c4 _ _ _ none P (uk au) (λ_ e=>T8)
 have cD:=hid_ λbD A l (h:a1 bD A)=>b4 _ _ _ h ⟨l,rfl⟩
 have ap:=hid_ λi (hx:Zed v m (λk=>k=g) r i)=>an_ (le_trans cl hx.size) (lt_of_lt_of_le bo hx.size)
 have N:Hid (∀i an,Zed v m (λk=>k=g) r i->Below i i an->Zed v m (λk=>k=g) i an):=λi an hx C=>Zed.c C (ap i hx).1 (ap i hx).2
 have cP:Hid (∀A l,Zed v m (λk=>k=g) A (A.setCell ⟨g,2,none⟩ l)):=λA l=>Zed.f A l c2 bd rfl
 have cG:Hid (∀A ae l,Zed v m (λ_=>False) A ae->¬kU m A g->ib A g J L l->ib ae g J L l):=λA ae l dl c7 Q=>dl.same g _ (λh=>h) bd c7 Q rfl
 have cM:Hid (∀i,Zed v m (λk=>k=g) r i->¬kU m i g):=λi hx df=>by
  rcases hx.own g df with h|h
  .exact b5 h
  have:=(nO bb).2.2.2.2
  omega
 have aX:=hid_ λi (hx:Zed v m (λk=>k=g) r i)=>lt_of_lt_of_le (nO bb).2.2.2.2 hx.size
 have cJ:=hid_ bd
 have bQ:Hid (ib aD g J L X/\bO aD X j/\eQ X/\jF m g aD X):=⟨pu (aM.mono (le_refl _)) bb,bO.a aM cc,cr,λq C=>by
  obtain⟨ab,aj,ak⟩:=ch q C
  exact⟨ab,aj,fun⟨M,hv,Z⟩=>ak ⟨M,by rw[bF aM bo] at hv;exact hv,Z⟩⟩⟩
 have dO:=hid_ bc
 have bP:=hid_ λk (Z:k<rs.length)=>getElem_mem Z
 have bh:Hid (∀k,bS ps rs (cE ps rs s j k)=0):=λk=>(sY bc k).1.r1
 obtain⟨S,T,rfl,_⟩:=cm
 obtain⟨cw,K,rfl,d1,di⟩:=id bz
 clear di hpe dh ct hb₀ b6 b7 aM bA bz bb cc cr ch b4 b9 b8 ca cf cd cg b5 bd bc
 refine callsIn_of_wp func167 rfl trivial ?_ rfl
 simp only[ntmps167,size_toArray,length_cons,length_nil,reduceAdd,reduceSub,replicate_succ,replicate_zero,push_toArray,append_toArray,nil_append,cons_append]
 obtain⟨aI,aJ⟩:=aA aD bU.out
 obtain⟨aT,aU,aV,_⟩:=nO bQ.out.1
 gi_wp2_with fail
 clear aI aJ aT aU aV
 gi_loopw [18] (λai wr=>∃(k:Nat) (l:Value),k<=rs.length/\ai=.int .i64 k/\a1 (d8 ps rs s j k) wr/\Hid (ib wr g (.slice S ps T) (.slice cw rs K) l/\bO wr l (cE ps rs s j k)/\eQ l/\jF m g wr l)/\Zed v m (λk=>k=g) r wr) (λai _=>rs.length-(intOf ai).toNat)
 case atStart=>exact⟨0,X,zero_le _,rfl,c0,bQ.out,bU.out⟩
 obtain⟨k,l,Z,rfl,ba,H,aR⟩:=hrel
 obtain⟨aI,aJ⟩:=aA wr aR
 obtain⟨aT,aU,aV,_⟩:=nO H.out.1
 by_cases R:k<rs.length
 .obtain⟨U,V,ds,hv,d0,de⟩:=cN (aB wr aR).2 R
  obtain⟨rfl,rfl⟩:cw=some ⟨U,V,none⟩/\K=ds:=SC
  obtain⟨dA,⟨d3,dB,dC⟩,dD,dE,dS,dF,dG⟩:=de
  obtain⟨aG,aH,rfl,_⟩:=dG
  obtain⟨aN,Q,rfl,_⟩:=dC
  have dX:(k:Int)<(rs.length:Int):=Q0
  clear hv
  obtain⟨Y,hW2⟩:=ex_ (wr.alloc (.cells #[.int .i64 rs[k].head.pred,.slice aN rs[k].head.args.length Q,.int .i64 rs[k].src,.int .i64 rs[k].n,.slice aG rs[k].body.length aH] 58))
  have bk:Below wr wr Y:=VP
  have bg:=aR.a (N _ _ aR bk)
  obtain⟨a3,a4,a5,a6,cW⟩:Y.cell? wr=some (.int .i64 rs[k].head.pred)/\Y.cell? ⟨wr,1,none⟩=some (.slice aN rs[k].head.args.length Q)/\Y.cell? ⟨wr,2,none⟩=some (.int .i64 rs[k].src)/\Y.cell? ⟨wr,3,none⟩=some (.int .i64 rs[k].n)/\Y.cell? ⟨wr,4,none⟩=some (.slice aG rs[k].body.length aH):=Vz
  obtain⟨aK,cY⟩:=aA Y bg
  have b2:=aC _ _ _ ba bk
  gi_wp2_with fail
  refine⟨trivial,CallsIn.mono (callsIn_wide.2 (bW Y k R aN Q aG aH bg)) ?_⟩
  rintro bm E ⟨rfl,bs⟩
  have I:=bg.a (N _ _ bg bs)
  have a9:=aC _ _ _ b2 bs
  have bl:=bt_ bk bs
  have O:Hid (ib E g (.slice S ps T) (.slice (some ⟨U,V,none⟩) rs K) l/\bO E l (cE ps rs s j k)/\eQ l/\jF m g E l):=⟨pu bl H.out.1,bO.a bl H.out.2.1,H.out.2.2.1,λq C=>by
   obtain⟨ab,aj,ak⟩:=H.out.2.2.2 q C
   exact⟨ab,aj,fun⟨M,hv,Z⟩=>ak ⟨M,by rw[bF bl (ap _ aR).2] at hv;exact hv,Z⟩⟩⟩
  clear hW2 a3 a4 a5 a6 cW aK cY aI aJ aT aU aV dA dB dD dE dF b2 ba H
  cases av:ce (bM ps rs) s rs[k]
  .have aq:Hid (d8 ps rs s j (k+1)=d8 ps rs s j k/\cE ps rs s j (k+1)=cE ps rs s j k):=⟨vF R av,sX R av⟩
   gi_wp2_with fail
   go_roundw
   case rel=>exact⟨k+1,l,Q0,Rv,by rw[aq.out.1];exact a9,by rw[aq.out.2];exact O,I⟩
   exact S6
  have aq:Hid (d8 ps rs s j (k+1)=d8 ps rs s j k++dH ps rs[k] (cE ps rs s j k) (bI (cE ps rs s j k) rs[k] k)/\cE ps rs s j (k+1)=cV ps rs[k] (cE ps rs s j k) (bI (cE ps rs s j k) rs[k] k)):=⟨vG R av,vE R av⟩
  have bN:Hid ((d8 ps rs s j (k+1)).length<=(cX ps rs s j).length):=y6 ps rs s j Q0
  have cO:Hid (∀o,(aw:o<(bI (cE ps rs s j k) rs[k] k).length)->(bI (cE ps rs s j k) rs[k] k)[o].rule=(k:Int)/\jl rs (cV ps rs[k] (cE ps rs s j k) ((bI (cE ps rs s j k) rs[k] k).take o)) (bI (cE ps rs s j k) rs[k] k)[o]=0/\bS ps rs (cV ps rs[k] (cE ps rs s j k) ((bI (cE ps rs s j k) rs[k] k).take o))=0/\
   ku ps rs (cV ps rs[k] (cE ps rs s j k) ((bI (cE ps rs s j k) rs[k] k).take o)) (bI (cE ps rs s j k) rs[k] k)[o]=cV ps rs[k] (cE ps rs s j k) ((bI (cE ps rs s j k) rs[k] k).take (o+1))/\
   dH ps rs[k] (cE ps rs s j k) ((bI (cE ps rs s j k) rs[k] k).take (o+1))=dH ps rs[k] (cE ps rs s j k) ((bI (cE ps rs s j k) rs[k] k).take o)++if lZ ps rs (cV ps rs[k] (cE ps rs s j k) ((bI (cE ps rs s j k) rs[k] k).take o)) (bI (cE ps rs s j k) rs[k] k)[o] then[(bI (cE ps rs s j k) rs[k] k)[o]] else[]):=λo aw=>by
   obtain⟨bn,aL,a8⟩:=Fy (bP k R) (px.1 av) (bh k) aw
   have co:=(iG.1 (getElem_mem aw)).1
   obtain⟨dt,du,dv⟩:=QE (ps:=ps) R co bn a8
   refine⟨co,dt,aL,?_,?_⟩
   .rw[du,take_add_one,getElem?_eq_getElem aw,toList_some,y8]
   rw[dv,take_add_one,getElem?_eq_getElem aw,toList_some,y_]
  have bJ:=hid_ (λi hx aQ=>bL i l _ k R (bh k) aQ hx)
  clear bL bW av bP bh
  generalize rs[k]=p at*
  generalize c9:d8 ps rs s j k=ag at*
  generalize c8:cE ps rs s j k=f at*
  clear c9 c8
  obtain⟨ac,ad,rfl,_⟩:=id O.out.2.1
  have bX:Hid (∀t:World,Below E E t->t.cell? af=some (.pointer (some ⟨g,0,none⟩))/\t.cell? g=some (.slice S ps T)/\t.cell? ⟨g,1,none⟩=some (.slice (some ⟨U,V,none⟩) rs K)/\t.cell? ⟨g,2,none⟩=some (.slice ac f ad)):=λt hx=>by
   obtain⟨aK,_⟩:=aA t (I.a (N _ _ I hx))
   obtain⟨aT,aU,aV,_⟩:=nO (pu hx O.out.1)
   exact⟨aK,aT,aU,aV⟩
  have bK:Hid (∀i,Below E E i->Calls prog 168 #[.agg #[.slice S ps T,.slice (some ⟨U,V,none⟩) rs K],.slice ac f ad,k] i λe t=>(∃al am,e=.returned (.tuple #[.slice al (bI f p k).length am,.int .i64 0])/\cL t (.slice al (bI f p k).length am) (bI f p k)/\∀q,(Value.slice al (bI f p k).length am).ownBlock=some q->E.heap.size<=q)/\Below i i t):=λi hx=>by
   refine(bJ i (I.a (N _ _ I hx)) (bO.a hx O.out.2.1)).mono ?_
   rintro e t ⟨⟨M,rfl,P,au⟩,c1⟩
   obtain⟨al,am,rfl,_⟩:=id P
   exact⟨⟨al,am,rfl,P,λq C=>le_trans hx.size (au q C)⟩,c1⟩
  gi_wp2_with fail
  refine wpIn_wide.2 ?_
  go_region_held3 (λt=>t.cell? af=some (.pointer (some ⟨g,0,none⟩))/\t.cell? g=some (.slice S ps T)/\t.cell? ⟨g,1,none⟩=some (.slice (some ⟨U,V,none⟩) rs K)/\t.cell? ⟨g,2,none⟩=some (.slice ac f ad)) (first|(refine bX _ ?_;(first|with_reducible exact Below.refl _ _|with_reducible exact Below.drew (Below.refl _ _)|with_reducible exact ah))) (first|(go_at_call 168;refine(bK _ (Below.drew (Below.refl _ _))).mono ?_;rintro bm aE ⟨⟨al,am,rfl,bB,cj⟩,dd⟩;have ah:Below E E aE:=((Below.refl _ _).drew).trans dd))
  have cu:=I.a (N _ _ I ah)
  have c5:=aC _ _ _ a9 ah
  have cB:=hid_ (Ft (bq _ _ a9) ah (aX _ I) (ap _ I).2 cj)
  have cQ:=hid_ bB
  have cx:Hid (ib aE g (.slice S ps T) (.slice (some ⟨U,V,none⟩) rs K) (.slice ac f ad)/\bO aE (.slice ac f ad) f/\eQ (.slice ac f ad)/\jF m g aE (.slice ac f ad)):=⟨pu ah O.out.1,bO.a ah O.out.2.1,O.out.2.2.1,λq C=>by
   obtain⟨ab,aj,ak⟩:=O.out.2.2.2 q C
   exact⟨ab,aj,fun⟨M,hv,Z⟩=>ak ⟨M,by rw[bF ah (ap _ I).2] at hv;exact hv,Z⟩⟩⟩
  have cI:Hid ((dH ps p f (bI f p k)).length+ag.length<=(cX ps rs s j).length):=by
   have P:=bN.out
   rw[aq.out.1,length_append] at P
   show _<=_
   omega
  have dW:(bI f p k).length<=140737488355328:=by
   obtain⟨_,_,_,h,_⟩:=bB
   exact h
  clear bB cj a9 bJ bK bX O bN
  gi_wp2_with fail
  gi_loopw [42] (λai aW=>∃(o:Nat) (D:Value),o<=(bI f p k).length/\ai=.int .i64 o/\a1 (ag++dH ps p f ((bI f p k).take o)) aW/\Hid (ib aW g (.slice S ps T) (.slice (some ⟨U,V,none⟩) rs K) D/\bO aW D (cV ps p f ((bI f p k).take o))/\eQ D/\jF m g aW D)/\Zed v m (λk=>k=g) aE aW) (λai _=>(bI f p k).length-(intOf ai).toNat)
  case atStart=>
   refine⟨0,.slice ac f ad,zero_le _,rfl,?_,?_,Zed.e _ _ _ _⟩
   .rw[take_zero,dH,append_nil]
    exact c5
   rw[take_zero,cV]
   exact cx
  obtain⟨o,D,aw,rfl,br,aP,bx⟩:=hrel
  have aS:=cu.a bx
  by_cases cn:o<(bI f p k).length
  .have cq:=QH bx cB cQ.out
   obtain⟨dx,dz,dy,hsv,d2,dn,dp,dq,dr⟩:=nj cq cn
   obtain⟨rfl,rfl⟩:al=some ⟨dx,dz,none⟩/\am=dy:=VZ
   have dZ:(o:Int)<((bI f p k).length:Int):=Q0
   obtain⟨bn,aL,a8,b1,ar⟩:=cO o cn
   have be:(ag++dH ps p f ((bI f p k).take (o+1))).length<=(cX ps rs s j).length:=by
    have P:=cI.out
    have au:=y9 ps p (bI f p k) f (o+1)
    rw[length_append]
    omega
   clear hsv cq
   generalize(bI f p k)[o]=w at*
   have bT:Hid (bS ps rs (cV ps p f ((bI f p k).take o))=0/\jl rs (cV ps p f ((bI f p k).take o)) w=0):=⟨a8,aL⟩
   have cC:=hid_ b1
   have cK:Hid (ku ps rs (cV ps p f ((bI f p k).take o)) w≠[]):=by
    obtain⟨ab,dY,_,_,_,e⟩:=QF aL
    show _≠_
    rw[e]
    exact Qn _ _ _
   clear bn aL a8 b1
   generalize c3:cV ps p f ((bI f p k).take o)=b0 at*
   generalize db:dH ps p f ((bI f p k).take o)=bE at*
   clear c3 db
   obtain⟨B,hW5⟩:=ex_ (wr.alloc (.cells #[w.rule,w.x,w.y,w.z] 140))
   have aF:Below wr wr B:=V0
   have dw:wr.heap.size<B.heap.size:=by rw[<-hW5];simp
   have aa:=aS.a (N _ _ aS aF)
   have dN:=bx.a (N _ _ aS aF)
   have bp:=aC _ _ _ br aF
   obtain⟨a3,a4,a5,a6⟩:B.cell? wr=some (.int .i64 w.rule)/\B.cell? ⟨wr,1,none⟩=some (.int .i64 w.x)/\B.cell? ⟨wr,2,none⟩=some (.int .i64 w.y)/\B.cell? ⟨wr,3,none⟩=some (.int .i64 w.z):=V1
   have bt:=pu aF aP.out.1
   have cy:=hid_ bt
   have cR:=cS B D b0 w bT.out.2 bt (bO.a aF aP.out.2.1) aP.out.2.2.1 bT.out.1 aa
   obtain⟨aK,_⟩:=aA B aa
   have aY:Hid (∀i bC an,Below B B i->B.cell? ⟨wr,bC,none⟩=some an->∀l,(i.setCell ⟨g,2,none⟩ l).cell? ⟨wr,bC,none⟩=some an):=λi bC an hx bf l=>by
    have:=aX _ aS
    rw[cb Q0,bF hx dw,bf]
   have aZ:Hid (B.cell? wr=some (.int .i64 w.rule)/\B.cell? ⟨wr,1,none⟩=some (.int .i64 w.x)/\B.cell? ⟨wr,2,none⟩=some (.int .i64 w.y)/\B.cell? ⟨wr,3,none⟩=some (.int .i64 w.z)):=⟨a3,a4,a5,a6⟩
   clear bt
   gi_wp2_with fail
   refine⟨trivial,CallsIn.mono (callsIn_wide.2 cR) ?_⟩
   rintro bm dP ⟨F,u,rfl,G,bv,aO,rfl⟩
   have d4:=aa.a (N _ _ aa G)
   have bG:=(dN.a (N _ _ aa G)).a (cP F u)
   have b3:=cD _ _ u (aC _ _ _ bp G)
   have ao:Hid (ib (F.setCell ⟨g,2,none⟩ u) g (.slice S ps T) (.slice (some ⟨U,V,none⟩) rs K) u/\bO (F.setCell ⟨g,2,none⟩ u) u (cV ps p f ((bI f p k).take (o+1)))/\eQ u/\jF m g (F.setCell ⟨g,2,none⟩ u) u):=by
    rw[<-cC.out]
    exact⟨Qq (pu G cy.out) u,Qu bv (λq C=>by have:=aO.2 q C;have:=aX _ aa;omega),aO.1,Qx cJ (Ft (bq _ _ bp) G (aX _ aa) (ap _ aa).2 aO.2)⟩
   have cH:Hid (∀q,u.ownBlock=some q->q<(F.setCell ⟨g,2,none⟩ u).heap.size):=λq C=>by
    rw[cF]
    exact QC bv aO.1 cK q C
   obtain⟨dJ,dK,dL,dM⟩:(F.setCell ⟨g,2,none⟩ u).cell? wr=some (.int .i64 w.rule)/\(F.setCell ⟨g,2,none⟩ u).cell? ⟨wr,1,none⟩=some (.int .i64 w.x)/\(F.setCell ⟨g,2,none⟩ u).cell? ⟨wr,2,none⟩=some (.int .i64 w.y)/\(F.setCell ⟨g,2,none⟩ u).cell? ⟨wr,3,none⟩=some (.int .i64 w.z):=⟨aY _ _ _ G aZ.out.1 _,aY _ _ _ G aZ.out.2.1 _,aY _ _ _ G aZ.out.2.2.1 _,aY _ _ _ G aZ.out.2.2.2 _⟩
   clear bv aO G bp hW5 a3 a4 a5 a6 aK dn dp dq dr
   generalize F.setCell ⟨g,2,none⟩ u=bY at*
   have dm:=cu.a bG
   cases cp:lZ ps rs b0 w
   .rw[cp,if_neg Q1,append_nil] at ar
    have a0:=hid_ ar
    clear ar be
    gi_wp2_with fail
    refine⟨λ_ h=>absurd h Q1,?_⟩
    gi_wp2_with fail
    go_roundw
    case rel=>exact⟨o+1,u,Q0,Rv,by rw[a0.out];exact b3,ao,bG⟩
    exact S6
   rw[cp,if_pos rfl] at ar
   have a0:Hid (ag++dH ps p f ((bI f p k).take (o+1))=ag++bE++[w]):=by show _=_;rw[ar,append_assoc]
   have dg:(ag++bE).length<(cX ps rs s j).length:=by
    rw[a0.out,length_append] at be
    simp at be⊢
    omega
   clear ar be
   obtain⟨dV,d6,dQ,dR,bf,da⟩:=dc (ag++bE) w bY trivial b3 dg
   dsimp only[ze] at bf
   gi_wp2_with fail
   refine da.mono ?_
   rintro bm a2 ⟨rfl,c6,ci⟩
   have bw:Zed v m (λk=>k=g) bY a2:=ci.d (λ_ h=>h.elim)
   have cz:Hid (ib a2 g (.slice S ps T) (.slice (some ⟨U,V,none⟩) rs K) u/\bO a2 u (cV ps p f ((bI f p k).take (o+1)))/\eQ u/\jF m g a2 u):=⟨cG _ _ _ ci (cM _ dm) ao.out.1,Qv bw ao.out.2.2.2 ao.out.2.1,ao.out.2.2.1,Qy bw ao.out.2.2.2 cH.out⟩
   clear dJ dK dL dM bf
   gi_wp2_with fail
   go_roundw
   case rel=>exact⟨o+1,u,Q0,Rv,by rw[a0.out];exact c6,cz,bG.a bw⟩
   exact S6
  obtain rfl:o=(bI f p k).length:=Q0
  rw[take_length] at br aP
  gi_wp2_with fail
  go_roundw
  case rel=>exact⟨k+1,D,Q0,Rv,by rw[aq.out.1];exact br,by rw[aq.out.2];exact aP,aS⟩
  simp[intOf];omega
 obtain rfl:k=rs.length:=Q0
 obtain⟨ax,cs,_⟩:=bq _ _ ba
 have cA:Hid (∀q,l.ownBlock=some q->q≠g/\q≠m/\ax.ownBlock≠some q):=λq C=>by
  obtain⟨ab,aj,ak⟩:=H.out.2.2.2 q C
  exact⟨ab,aj,λe=>ak ⟨ax,cs,e⟩⟩
 gi_wp2_with fail
 go_end0
 exact⟨⟨_,rfl⟩,_,⟨rfl,l,ax,H.out.1,H.out.2.1,H.out.2.2.1,cs,cA.out⟩,ba⟩
theorem QK(a:World)(d f e:Nat)(A b)(s:Int)(c r)(x t:Nat)(h)(j i:Nat)(u:c.head.pred=(e:Int))(v:e<b.length)(k:a.cell? d=some A)(l:a.cell? f=some (.int .i64 s))(m:dD a A b)(p:d<a.heap.size)(q:f<a.heap.size):Calls prog 120 #[.agg #[c.head.pred,.slice r x t,c.src,c.n,.slice h j i],.pointer (some ⟨d,0,none⟩),.pointer (some ⟨f,0,none⟩)] a λe C=>e=.returned (.bool (ce b s c))/\Below a a C:=by
 obtain⟨B,z,I,rfl,w,l0⟩:=cN m v;have y:a.cell? ⟨B,z+e,none⟩=some (.int .i64 (b[e]:Int)):=Wn
 have HE:Hid (ce b s c=((b[e]:Int)==s)):=by
  show _=_;unfold ce bX;rw[u,toNat_natCast];simp[v];rfl
 rw[u];obtain⟨g,hW1⟩:=ex_ (a.alloc (.cells #[e,.slice r x t,c.src,c.n,.slice h j i] 58));have b1:Below a a g:=VO;have G:g.cell? a=some (.int .i64 (e:Int)):=UB;have D:=(bF (o:=0) b1 p).trans k;have E:=(bF (o:=0) b1 q).trans l;have F:=(bF (o:=z+e) b1 w).trans y;have H:(e:Int)<(b.length:Int):=Q0;generalize b[e]=J at*;clear k l m l0 y p q w;go_enter func120,ntmps120;exact Zs
theorem Qp(a:World)(b c d):Calls prog 121 #[.pointer (some ⟨b,0,none⟩),.func (.func c) #[] d] a λe f=>e=.returned (.func (.func 167) #[] #[.pointer (some ⟨a,0,none⟩),.pointer (some ⟨a.heap.size+1,0,none⟩)])/\ f=(a.alloc (.cells #[.pointer (some ⟨b,0,none⟩)] 170)).alloc (.cells #[.func (.func c) #[] d] 173):=by
 go_enter func121,ntmps121;exact aer
theorem aa4(h:p:=by
 refine hK' _ _ (h v' w' ?_ r2 h4)
 rw[length_append,cY,map_append,qR]
 exact r1):p:=h
theorem QQ{k:Fence}{n:Nat}(c:World){C:Array Oper}{D:List Oper}{o:Oper}{i:Act}{q:Exit->Act->World->Prop}(I:o.guard=none)(s E:Operand)(p:o.op=.call {callee:=.builtin .append,args:=#[s,E],argTypes:=#[86,86]})(g:Nat)(d:Value)(b:List Stp)(a:Stp)(u:c.ownsRow g 140 4 d b (cY b))(K:i.eval s=d)(f:Nat)(L:i.eval E=.slice (some ⟨f,0,none⟩) 1 1)(M:TypeId)(J:c.heap[f]? =some (.cells #[a.rule,a.x,a.y,a.z] M))(O:b.length<=5000)(G:g<=c.heap.size)(h:∀v' w',w'.ownsRow g 140 4 v' (b++[a]).length (cY (b++[a]))->c.grownBy w' d.ownBlock->(∀m,v'.ownBlock=some m->d.ownBlock=some m\/m=c.heap.size)->wpListIn k n prog C q D (i.put o.dst v') w'):wpListIn k n prog C q (o::D) i c:=by
 obtain⟨B,t,A,w,r⟩:=info_parts wj;rcases kB J with⟨l,j,_⟩|⟨F,l,he,j⟩
 .simp at j
 obtain⟨rfl,rfl⟩:(⟨f,0,none⟩:Addr)=F/\1=l:=Ro;refine wpListIn_plain I λN hK'=>?_;obtain⟨v',w',v,r1,r2,_⟩:=run_append_own_wide (P:=prog) c g 86 o.type 140 B _ 4 32 underlying86 t A w r rfl Q0 d b (cY b) u ⟨f,0,none⟩ 1 1 (cB [⟨a.rule,a.x,a.y,a.z⟩]) (oN _) j (oO _) TZ Q0 G;have h4:=wM c g 86 o.type 140 B _ 4 32 underlying86 t A w r d b (cY b) u ⟨f,0,none⟩ 1 1 (cB [⟨a.rule,a.x,a.y,a.z⟩]) (oN _) j (oO _) TZ Q0 Q0 v;unfold Oper.wpIn;refine⟨?_,?_⟩
 .simp[Oper.about,p,resolve,Target.leads,Sem.run_pure]
 rw[Oper.semAt_plain k _ _ (by rw[p];intro l H;cases H)];simp[execOp,p,resolve,invoke,builtin,K,L,v,Result.andThen];exact aa4
theorem QS{l b}{n:Nat->Prop}{d i m:World}{s}(c:Zed l b n d i)(h:i.grownBy m s)(r:l<=d.heap.size)(t:b<d.heap.size)(k:∀g,s=some g->d.heap.size<=g/\∃o:Obj,i.heap[g]? =some o/\o.isCells=false):Zed l b n d m:=by
 refine⟨c.below.grown h (le_trans r c.size) (λf e=>le_trans r (k f e).1),le_trans c.size h.size,λf o y u v j q=>?_,λf j=>?_⟩
 .have p:=c.same f o y u v j q;exact(grownBy_keeps_cells h (λg e=>(k g e).2) p q).trans p
 refine c.own f ?_;obtain⟨z,w,x⟩:=j;refine⟨z,?_,x⟩;have e:=h.block b (lt_of_lt_of_le t c.size) (λe=>by have:=(k b e.symm).1;omega);exact(cell?_of_block (a:=⟨b,0,none⟩) e).symm.trans w
theorem QT{j c N}{k:Nat->Prop}{b:World}{l o d}(t:N<=l)(v:j<=N)(s:c<N)(g:b.heap[l]? =some o)(n:o.isCells=false):Zed j c k b (b.putObj l d):=by
 have u:=(Array.getElem?_eq_some_iff.1 g).1;refine⟨(Below.refl _ b).grown (grownBy_putObj' b l d) Q0 (λw e=>Wk),(grownBy_putObj' b l d).size,λi x _ _ _ f h=>?_,λi ⟨r,p,q⟩=>.inl ⟨r,?_,q⟩⟩
 .have m:i≠l:=λe=>by rw[e,g] at f;cases f;rw[n] at h;cases h
  exact(World.putObj_heap_other m).trans f
 have e:(b.putObj l d).heap[c]? =b.heap[c]? :=World.putObj_heap_other Q0;exact(cell?_of_block (a:=⟨c,0,none⟩) e).symm.trans p
theorem pw{a:World}{d i n h q}(m:Boxed a d 86 h)(p:a.ownsRow i 140 4 h n q){c j e}{k:Nat×Nat}(l:a.heap[c]? =some (.cells j e k))(o:e≠140):¬kU d a c:=by
 rintro⟨u,g,b⟩;rw[m.cell] at g;cases g
 rcases p.2 with⟨rfl,_⟩|⟨t,r,s,rfl,_,f,_⟩
 .cases b
 simp only[ownBlock,injEq] at b;subst b;rw[l] at f;cases f
 exact o rfl
theorem QA{a c:World}{j}(g:a.grownBy c j)(l:∀i,j=some i->∃o:Obj,a.heap[i]? =some o/\o.isCells=true):KeepsOthers a c:=
 ⟨g.size,λh o b k=>(g.block h (Array.getElem?_eq_some_iff.1 b).1 (λe=>by
  obtain⟨m,d,f⟩:=l h e.symm
  rw[b] at d
  cases d
  rw[k] at f
  cases f)).trans b⟩
theorem s_{f:World}{c n d j}(i:f.ownsRow c 140 4 d n j):∀a,d.ownBlock=some a->c<=a/\∃o:Obj,f.heap[a]? =some o/\o.isCells=true:=λa b=>by
 rcases i.2 with⟨rfl,_⟩|⟨m,k,l,rfl,g,h,_⟩
 .cases b
 simp only[ownBlock,injEq] at b
 subst b
 exact⟨g,_,h,rfl⟩
theorem QR{k b m n}{t:Nat->Prop}{a h:World}{c l G}(o)(d:Boxed a b 86 c)(j:a.ownsRow m 140 4 c n G)(A:k<=m)(B:k<=b)(f:(a.alloc o).grownBy h c.ownBlock)(D:∀i,l.ownBlock=some i->c.ownBlock=some i\/i=(a.alloc o).heap.size):Zed k b t a (h.setCell b l)/\KeepsOthers a (h.setCell b l):=by
 have z:=d.lt;have hsz:a.heap.size<=h.heap.size:=by have:=f.size;simp at this;omega
 have C:=d.not_row SN j;have w:Boxed h b 86 c:=(f.block b RD C).trans ((Below.heap_alloc _ _ _ z).trans d);refine⟨⟨?_,S7,λg s _ x v q _=>?_,λg ⟨H,r,E⟩=>?_⟩,?_⟩
 .refine Below.setCell (p:=⟨b,0,none⟩) ?_ B _;exact((Below.refl _ a).alloc Q0 o).grown f RD (λg e=>le_trans A (s_ j g e).1)
 .have y:=(Array.getElem?_eq_some_iff.1 q).1;rw[kY (λe=>x e.symm),f.block g RD (λe=>v ⟨c,d.cell,e.symm⟩),Below.heap_alloc _ _ _ y];exact q
 .rw[fC w.cell] at r;cases r
  rcases D g E with h1|h1
  .exact .inl ⟨c,d.cell,h1⟩
  exact .inr UO
 refine((KeepsOthers.alloc a o).trans (QA f λF e=>?_)).trans (KeepsOthers.setCell _ _ _);obtain⟨_,s,h1,u⟩:=s_ j F e;exact⟨s,(Below.heap_alloc _ _ _ (Array.getElem?_eq_some_iff.1 h1).1).trans h1,u⟩
theorem FE{a b s f}(d:bS a b f=0):(cX a b s f).length<=(gH a b s f).length:=by
 by_cases c:cX a b s f=[]
 .rw[c];exact zero_le _
 rw[(oK d c).2,length_append];omega
theorem FF(c:World){w:Array Oper}{A:List Oper}{o:Oper}{i:Act}{l:Exit->Act->World->Prop}(E:o.guard=none)(s B:Operand)(F:o.op=.call {callee:=.builtin .append,args:=#[s,B],argTypes:=#[86,86]})(g:Nat)(d:Value)(b:List Stp)(a:Stp)(q:c.ownsRow g 140 4 d b (cY b))(H:i.eval s=d)(f:Nat)(I:i.eval B=.slice (some ⟨f,0,none⟩) 1 1)(J:TypeId)(G:c.heap[f]? =some (.cells #[a.rule,a.x,a.y,a.z] J))(L:b.length<=5000)(D:g<=c.heap.size)(h:∀v' w',w'.ownsRow g 140 4 v' (b++[a]).length (cY (b++[a]))->c.grownBy w' d.ownBlock->(∀k,v'.ownBlock=some k->d.ownBlock=some k\/k=c.heap.size)->wpList prog w l A (i.put o.dst v') w'):wpList prog w l (o::A) i c:=by
 obtain⟨v,p,u,t,n⟩:=info_parts wj;rcases kB G with⟨m,j,_⟩|⟨C,m,he,j⟩
 .simp at j
 obtain⟨rfl,rfl⟩:(⟨f,0,none⟩:Addr)=C/\1=m:=Ro;refine wpList_plain E λK hK'=>?_;obtain⟨v',w',r,r1,r2,_⟩:=run_append_own_wide (P:=prog) c g 86 o.type 140 v _ 4 32 underlying86 p u t n rfl Q0 d b (cY b) q ⟨f,0,none⟩ 1 1 (cB [⟨a.rule,a.x,a.y,a.z⟩]) (oN _) j (oO _) TZ Q0 D;have h4:=wM c g 86 o.type 140 v _ 4 32 underlying86 p u t n d b (cY b) q ⟨f,0,none⟩ 1 1 (cB [⟨a.rule,a.x,a.y,a.z⟩]) (oN _) j (oO _) TZ Q0 Q0 r;unfold Oper.wp execOp;simp only[F,resolve,invoke,builtin,Sem.run_bind,Sem.run_pure,Result.andThen_ok,List.map_toArray,map_cons,map_nil,H,I,r];exact aa4
theorem FC{A B:World}{a c:Value}{l:List Stp}(g:cL A a l)(hg:A.grownBy B c.ownBlock)(hne:∀b,a.ownBlock=some b->c.ownBlock≠some b):cL B a l:=by
 obtain⟨d,f,rfl,h,hx⟩:=g;refine⟨d,f,rfl,h,?_⟩;exact Zk
structure aE (W2:World) (ps:List Prd) (rs:List Rul) (u v:Value) (f:List Fct) (out:List Stp) (x:World):Prop where
 bel:Below W2 W2 x
 fac:bO x u f
 row:x.ownsRow W2.heap.size 140 4 v out (cY out)
 apa:lF u v f
 rig:bS ps rs f=0
theorem aE.a{g:World}{i:List Prd}{j:List Rul}{k l:Value}{f:List Fct}{h:List Stp}{d m:World}(b:aE g i j k l f h d)(c:Below d d m):aE g i j k l f h m:=⟨b.bel.trans (c.mono b.bel.size),bO.a c b.fac,cg b.row c,b.apa,b.rig⟩
def yZ:Value->Nat
 | .bool true=>1
 |_=>0
def Qm(ps:List Prd)(rs:List Rul)(s:Int)(f:List Fct):Prop:=Lev ps rs s f (fQ ps rs s f)/\eS ps f+(cX ps rs s f).length<=eS ps (fQ ps rs s f)/\(cX ps rs s f=[]->fQ ps rs s f=f)/\(fQ ps rs s f).length<=f.length+(cX ps rs s f).length
noncomputable def qM(ps:List Prd)(u a:Value)(x:World):Nat:=2*nW ps u x+yZ a
theorem WJ(h:p:=by rw[(qO (x:=y) (cG (cZ HGQ.out).2)).2 hne] at hsc;cases hsc):p:=h
theorem WK(h:p:=by rw[HG5.out,hsc];simp):p:=h
theorem WM(h:p:=by show _<_;have:=k6.size;have:=hb7.size;omega):p:=h
theorem Y2(h:p:=by
 have HF:Hid (cy (bJ ps) y fq=fq):=byContradiction λhne=>WJ
 have HG4':Hid (cV ps r G ((bI G r n).take (k+1))=fq/\dH ps r G ((bI G r n).take (k+1))=sq):=⟨by rw[HG4.out,HF.out],WK⟩
 rw[hsc] at HA6
 go_wp2_with fail
 refine HA6.mono ?_
 rintro ex W7 ⟨u7,rfl,hf7,hc7,hb7⟩
 have HT7:=hid_ (HT6.out.a hb7)
 have HS7:=hid_ (cL.a hb7 HS6.out)
 clear hf7 hc7
 go_wp2_with fail
 refine⟨⟨k+1,u3,v3,rfl,rfl,Q0,?_,Rv,?_⟩,S6⟩
 .rw[HG4'.out.2]
 rw[HG4'.out.1,HG4'.out.2]
 exact⟨HT7.out,HS7.out,htq.out.2.2⟩):p:=h
theorem QL(j:World)(M U:Value)(ps:List Prd)(c:List Rul)(aN:bR j M ps)(hr:ck j U c)(L:bP ps c=0):Calls prog 47 #[.agg #[M,U]] j λe o=>∃g,e=.returned g/\cL o g (mx ps c)/\Below j j o:=by
 obtain⟨z1,z2,z3⟩:=gN (gO L).1;obtain⟨bv,cp⟩:=iq L;have hre:=eU L;have b1:Hid (∀x,Below j j x->Calls prog 44 #[.agg #[M,U]] x λe o=>(∃i,e=.returned i/\dD o i (bM ps c))/\Below x x o):=λx hx=>(pX x M U ps c (bR.a hx aN) (ck.a hx hr) z1 z2 z3).mono λ_ _ ⟨⟨i,h1,v⟩,an⟩=>⟨⟨i,h1,v _ bv⟩,an⟩;have ae:=hid_ λx (hx:Below j j x)=>an_ (bR.a hx aN) (ck.a hx hr);have a4:=hid_ λx g f n (hn:n<c.length)(R:bS ps c f=0)(ai:bO x g f)(hx:Below j j x)=>v_ x M U g ps c f n (ae x hx).1 (ae x hx).2 ai hre (cZ R).2 hn;have a8:=hid_ λx g f n (hn:n<c.length) i (aP:cT i=true)(R:bS ps c f=0)(ai:bO x g f)(hx:Below j j x)=>tE x M U g ps c f n i (ae x hx).1 (ae x hx).2 ai hre (cZ R).2 hn aP;have a3:Hid (∀x g f (y:Fct),bS ps c f=0->cw ps y=true->bO x g f->Below j j x->Calls prog 98 #[M,g,.agg #[y.pred,y.a,y.b,y.val]] x λe o=>∃aV,e=.returned (.tuple #[aV,.bool (dR (bJ ps) y f)])/\bO o aV (cy (bJ ps) y f)/\fW x aV/\Below x x o):=λx g f y R ci ai hx=>vR x M g ps f y.pred y.a y.b y.val (ae x hx).1 ai (cZ R).2 ci;have bY:=hid_ hre
 have bU:Hid (∀r∈c,∃e:Nat,r.head.pred=(e:Int)/\e<(bM ps c).length):=λr hr'=>by
  exact aaw
 have bW:Hid (∀x n,(hn:n<c.length)->Below j j x->∃rb ro rc,U=.slice (some ⟨rb,ro,none⟩) c rc/\rb<j.heap.size/\x.cell? ⟨rb,ro+n*5,none⟩=some (.int .i64 c[n].head.pred)):=λx n hn hx=>by
  exact Z7
 have bh:Hid (∀d,(dh ps c d).2.length<=2000):=λd=>by
  have h1:=(vN L d).1;have v:=ke (cZ (vO L d)).2;rw[oW] at v;omega
 have bT:=hid_ (le_trans (vL L) z1);have bV:=hid_ (tN L);obtain⟨aw,ax,rfl,_⟩:=aN;obtain⟨aS,rc,rfl,_⟩:=hr;rw[mx];clear bv cp z1 z2 z3 L hre;obtain⟨am,hW1⟩:=ex_ (j.alloc (.cells #[.slice aw ps ax,.slice aS c rc] 30));have bi:Below j j am:=VO;have bB:am.cell? j=some (.slice aw ps ax)/\am.cell? ⟨j,1,none⟩=some (.slice aS c rc)/\j.heap.size<am.heap.size:=Wz;go_enter func47,ntmps47;go_wp2_with fail;clear hW1;refine(b1 _ bi).mono ?_;rintro e E ⟨⟨cP,rfl,bp⟩,bk⟩;have au:=bt_ bi bk;have a1:=jL bk bB;have bd:=li_ bp;obtain⟨ct,cu,rfl,_⟩:=bp;go_wp2_with fail;go_loopw [4,5,6] (λf T C wr=>∃(d:Nat) (g i:Value),g=f/\i=T/\d<=cC (bM ps c)/\C=.int .i64 d/\Hid (aE E ps c g i (dh ps c d).1 (dh ps c d).2 wr)) (λ_ _ C _=>cC (bM ps c)-(intOf C).toNat)
 case atStart=>exact⟨0,_,_,rfl,rfl,zero_le _,rfl,⟨Below.refl _ _,ie _,⟨rfl,.inl ⟨rfl,rfl⟩⟩,.inl rfl,bV.out⟩⟩
 obtain⟨d,g,i,rfl,rfl,bq,rfl,m⟩:=hrel;go_wp2_with fail;refine mq_ (wT _ _ _ (bd _ m.out.bel)) ?_;by_cases cI:d<cC (bM ps c)
 .have cJ:(d:Int)<=(cC (bM ps c):Int)-1:=Q0;have aA:Hid ((dh ps c (d+1)).1=gG ps c (d:Int) (dh ps c d).1/\(dh ps c (d+1)).2=(dh ps c d).2++gH ps c (d:Int) (dh ps c d).1):=⟨rfl,rfl⟩;have bG:=hid_ (bh (d+1));have cO:d<5:=by have:=bT.out;omega
  generalize b9:(dh ps c d).1=ab at*;generalize ca:(dh ps c d).2=aG at*;clear b9 ca;go_wp2_with fail;go_loopw [4,5,7] (λP T O wr=>∃(l:Bool) (g i:Value) (f:List Fct) (p:List Stp),g=P/\i=T/\O=.bool l/\Hid (aE E ps c g i f p wr)/\Hid (gG ps c (d:Int) f=gG ps c (d:Int) ab/\p++gH ps c (d:Int) f=aG++gH ps c (d:Int) ab/\(l=false->cX ps c (d:Int) f=[]))) (λP _ O wr=>qM ps P O wr)
  case atStart=>exact⟨true,g,i,ab,aG,rfl,rfl,rfl,m,⟨rfl,rfl,λh=>Rm⟩⟩
  clear m;obtain⟨l,g,i,f,p,rfl,rfl,rfl,m,X⟩:=hrel;cases l
  .obtain⟨V,Q⟩:=sV (X.out.2.2 rfl)
   have a5:Hid ((dh ps c (d+1)).1=f/\(dh ps c (d+1)).2=p):=by
    have h1:=X.out.1;have v:=X.out.2.1;rw[V] at h1;rw[Q,append_nil] at v;exact⟨by rw[aA.out.1,<-h1],by rw[aA.out.2,<-v]⟩
   clear V Q;go_wp2_with fail;refine⟨⟨d+1,g,i,rfl,rfl,Q0,Rv,?_⟩,S6⟩;rw[a5.out.1,a5.out.2];exact m
  go_wp2_with fail
  have bN:Hid (p.length+(cX ps c (d:Int) f).length<=2000):=by
   have h1:=bG.out;have v:=FE (s:=(d:Int)) m.out.rig;have an:=congrArg List.length X.out.2.1;rw[aA.out.2,length_append] at h1;rw[length_append,length_append] at an;show _<=_;omega
  have bf:Hid (Qm ps c (d:Int) f):=te m.out.rig;have al:Hid (∀n,bS ps c (cE ps c (d:Int) f n)=0):=λn=>(sY m.out.rig n).1.r1;have b4:Hid (qM ps g (.bool true) wr=2*(dM-eS ps f)+1):=by show qM ps g (.bool true) wr=_;unfold qM;rw[nX m.out.fac];rfl
  have bg:=hid_ m.out;go_loopw [4,5,7,8] (λP T O C wr=>∃(n:Nat) (g i:Value),g=P/\i=T/\n<=c.length/\O=.bool (!(d8 ps c (d:Int) f n).isEmpty)/\C=.int .i64 n/\Hid (aE E ps c g i (cE ps c (d:Int) f n) (p++d8 ps c (d:Int) f n) wr)) (λ_ _ _ C _=>c.length-(intOf C).toNat)
  case atStart=>
   refine⟨0,g,i,rfl,rfl,zero_le _,rfl,rfl,?_⟩;show Hid (aE E ps c g i f (p++[]) wr);rw[append_nil];exact bg
  clear bg m;obtain⟨n,g,i,rfl,rfl,hn,rfl,rfl,m⟩:=hrel;have bt:=bt_ au m.out.bel;obtain⟨J,K,cA⟩:=jL m.out.bel a1;by_cases B:n<c.length
  .obtain⟨rb,ro,cs,bo,cM,bz⟩:=bW wr n B bt;obtain⟨rfl,rfl⟩:aS=some ⟨rb,ro,none⟩/\rc=cs:=by simpa using bo
   clear bo;obtain⟨e,aq,bl⟩:=bU c[n] (getElem_mem B);rw[aq] at bz;obtain⟨bw,bx,cq,hlv,cH,l0⟩:=cN (bd wr m.out.bel) bl;obtain⟨rfl,rfl⟩:ct=some ⟨bw,bx,none⟩/\cu=cq:=Vk;have bu:wr.cell? ⟨bw,bx+e,none⟩=some (.int .i64 ((bM ps c)[e]:Int)):=Wn;clear hlv l0
   have ap:(bX (bM ps c) c[n].head.pred.toNat:Int)=((bM ps c)[e]:Int):=by
    rw[aq,toNat_natCast];unfold bX;simp[bl]
   have cB:(e:Int)<((bM ps c).length:Int):=Q0;have cK:(n:Int)<(c.length:Int):=Q0;cases t:ce (bM ps c) (d:Int) c[n]
   .have aO:(((bM ps c)[e]:Int)==(d:Int))=false:=by
     unfold ce at t;rw[ap] at t;simpa using t
    have I:Hid (d8 ps c (d:Int) f (n+1)=d8 ps c (d:Int) f n/\cE ps c (d:Int) f (n+1)=cE ps c (d:Int) f n):=⟨vF B t,sX B t⟩;clear ap aq t;go_wp2_with fail;refine⟨⟨n+1,g,i,rfl,rfl,Q0,by rw[I.out.1],Rv,?_⟩,S6⟩;rw[I.out.1,I.out.2];exact m
   have aO:(((bM ps c)[e]:Int)==(d:Int))=true:=by
    unfold ce at t;rw[ap] at t;simpa using t
   have ak:=by simpa using aO
   rw[ak] at bu;have I:Hid (d8 ps c (d:Int) f (n+1)=d8 ps c (d:Int) f n++dH ps c[n] (cE ps c (d:Int) f n) (bI (cE ps c (d:Int) f n) c[n] n)/\cE ps c (d:Int) f (n+1)=cV ps c[n] (cE ps c (d:Int) f n) (bI (cE ps c (d:Int) f n) c[n] n)):=⟨vG B t,vE B t⟩;have bK:Hid ((d8 ps c (d:Int) f (n+1)).length<=(cX ps c (d:Int) f).length):=y6 ps c (d:Int) f Q0;have bZ:=hid_ λk (hk:k<(bI (cE ps c (d:Int) f n) c[n] n).length)=>Fy (getElem_mem B) (px.1 t) (al n) hk;have b0:Hid (∀k,bS ps c (cV ps c[n] (cE ps c (d:Int) f n) ((bI (cE ps c (d:Int) f n) c[n] n).take k))=0):=λk=>(vH (getElem_mem B) (px.1 t) (al n) (λd bq=>(iG.1 (List.mem_of_mem_take bq)).2.1)).1.r1;have a2:=a4 wr g _ n B (al n) m.out.fac bt;have bE:=hid_ (λx g f i=>a8 x g f n B i);have bD:=hid_ λf i (R:bS ps c f=0)(aP:cT i=true)=>kZ (bY _ (getElem_mem B)) (cZ R).2 aP;clear ap aq t aO ak al a8 a4;generalize c[n]=r at*;generalize cc:d8 ps c (d:Int) f n=w at*;generalize cb:cE ps c (d:Int) f n=G at*;clear cc cb;go_wp2_with fail;refine a2.mono ?_;rintro ex cQ ⟨cx,rfl,ak,bm,cd⟩;have br:=m.out.a cd;have be:=hid_ br
   have ba:Hid (∀l,cx.ownBlock=some l->i.ownBlock≠some l):=λl hb e=>by
    have h1:=bm l hb;have v:=(m.out.row.lt l e).2;omega
   have bc:=hid_ ak;obtain⟨aT,aU,rfl,W,_⟩:=ak
   have bL:Hid (p.length+w.length+(dH ps r G (bI G r n)).length<=2000):=by
    have h1:=bK.out;have v:=bN.out;rw[I.out.1,length_append] at h1;show _<=_;omega
   clear br bm J K a2 bz bu;go_wp2_with fail;go_loopw [4,5,7,10] (λP T O C bA=>∃(k:Nat) (u3 v3:Value),u3=P/\v3=T/\k<=(bI G r n).length/\O=.bool (!w.isEmpty|| !(dH ps r G ((bI G r n).take k)).isEmpty)/\C=.int .i64 k/\Hid (aE E ps c u3 v3 (cV ps r G ((bI G r n).take k)) (p++w++dH ps r G ((bI G r n).take k)) bA/\cL bA (.slice aT (bI G r n).length aU) (bI G r n)/\∀l,(Value.slice aT (bI G r n).length aU).ownBlock=some l->v3.ownBlock≠some l)) (λ_ _ _ C _=>(bI G r n).length-(intOf C).toNat)
   case atStart=>
    refine⟨0,g,i,rfl,rfl,zero_le _,?_,rfl,?_⟩
    .rw[take_zero,dH];simp
    rw[take_zero,dH,cV,append_nil];exact⟨be.out,bc.out,ba.out⟩
   clear be bc ba;obtain⟨k,u3,v3,rfl,rfl,hk,rfl,rfl,htq⟩:=hrel;have av:=bt_ au htq.out.1.bel;obtain⟨J,K,bj⟩:=jL htq.out.1.bel a1;by_cases Y:k<(bI G r n).length
   .have cF:(k:Int)<((bI G r n).length:Int):=Q0;obtain⟨aa,ay,cv,bs,ar,Z,D,N,A⟩:=nj htq.out.2.1 Y;obtain⟨rfl,rfl⟩:aT=some ⟨aa,ay,none⟩/\aU=cv:=by simpa using bs
    obtain⟨V,Q,aI⟩:=bZ k Y
    have HG4:Hid (cV ps r G ((bI G r n).take (k+1))=cy (bJ ps) (co ps (cV ps r G ((bI G r n).take k)) r (bI G r n)[k].a) (cV ps r G ((bI G r n).take k))):=by
     show _=_;rw[take_add_one,getElem?_eq_getElem Y,toList_some,y8];rfl
    have HG5:Hid (dH ps r G ((bI G r n).take (k+1))=dH ps r G ((bI G r n).take k)++if dR (bJ ps) (co ps (cV ps r G ((bI G r n).take k)) r (bI G r n)[k].a) (cV ps r G ((bI G r n).take k)) then[(bI G r n)[k]] else[]):=by
     show _=_;rw[take_add_one,getElem?_eq_getElem Y,toList_some,y_];rfl
    have a7:Hid (∀x,Below wr wr x->Calls prog 97 #[.agg #[.slice aw ps ax,.slice (some ⟨rb,ro,none⟩) c rc],u3,n,.agg #[.int .i64 (bI G r n)[k].x,.int .i64 (bI G r n)[k].y,.int .i64 (bI G r n)[k].z]] x λe o=>e=.returned (.tuple #[.bool true,.agg #[.int .i64 (co ps (cV ps r G ((bI G r n).take k)) r (bI G r n)[k].a).pred,.int .i64 (co ps (cV ps r G ((bI G r n).take k)) r (bI G r n)[k].a).a,.int .i64 (co ps (cV ps r G ((bI G r n).take k)) r (bI G r n)[k].a).b,.int .i64 (co ps (cV ps r G ((bI G r n).take k)) r (bI G r n)[k].a).val]])/\Below x x o):=λx hx=>by
     have h:=bE x u3 _ (bI G r n)[k].a V Q (bO.a hx htq.out.1.fac) (av.trans (hx.mono av.size));rw[aI,show dl ps (cV ps r G ((bI G r n).take k)) r (bI G r n)[k].a=co ps (cV ps r G ((bI G r n).take k)) r (bI G r n)[k].a by rw[dl,if_pos aI]] at h;exact h
    have a6:=hid_ (bD _ _ Q V);have HGQ:=hid_ Q
    have bb:Hid (bS ps c (cy (bJ ps) (co ps (cV ps r G ((bI G r n).take k)) r (bI G r n)[k].a) (cV ps r G ((bI G r n).take k)))=0):=by
     have h:=b0 (k+1);rw[HG4.out] at h;exact h
    have a9:Hid ((p++w++dH ps r G ((bI G r n).take k)).length<=5000):=by
     show _<=_;have h1:=bL.out;have v:=y9 ps r (bI G r n) G k;rw[length_append,length_append];omega
    have ah:=hid_ λx (hx:Below wr wr x)=>an_ ((bF hx ar).trans Z) (an_ ((bF hx ar).trans D) (an_ ((bF hx ar).trans N) ((bF hx ar).trans A)));clear bs V Q aI;generalize(bI G r n)[k]=q at*;generalize cf:cV ps r G ((bI G r n).take k)=fq at*;generalize ch:dH ps r G ((bI G r n).take k)=sq at*;clear cf ch;generalize co ps fq r q.a=y at*;have aD:=hid_ λ(o:World)(hx:Below wr wr o)=>an_ ((bF hx bj).trans J) (an_ ((bF hx bj).trans K) (an_ ((ah o hx).2.1) (an_ ((ah o hx).2.2.1) ((ah o hx).2.2.2))));have KA:Hid (Below wr wr (wr.alloc (.cells #[.int .i64 0,.int .i64 0,.int .i64 0,.int .i64 0] 93))):=bH _ _;have KS:=hid_ λx (hx:Below wr wr x) aX aY aZ a0=>tB hx aX aY aZ a0;have b7:=hid_ λx (hx:Below (wr.alloc (.cells #[.int .i64 0,.int .i64 0,.int .i64 0,.int .i64 0] 93)).drew.heap.size (wr.alloc (.cells #[.int .i64 0,.int .i64 0,.int .i64 0,.int .i64 0] 93)).drew x)=>tK hx;clear Z D N A;go_wp2_with fail;clear J K;go_region_held3 (λo=>o.cell? j=some (.slice aw ps ax)/\o.cell? ⟨j,1,none⟩=some (.slice (some ⟨rb,ro,none⟩) c rc)/\o.cell? ⟨aa,ay+k*4+1,none⟩=some (.int .i64 q.x)/\o.cell? ⟨aa,ay+k*4+2,none⟩=some (.int .i64 q.y)/\o.cell? ⟨aa,ay+k*4+3,none⟩=some (.int .i64 q.z)) (first|(refine aD _ ?_;exact Yg)) (first|(go_at_call 97;refine(a7 _ (KA.out.drew)).mono ?_;rintro ex H ⟨rfl,ao⟩;have hk:Below wr wr H:=KA.out.trans ((((Below.refl _ _).drew).trans ao).mono KA.out.size);obtain⟨z0,z1,z2,z3,zf⟩:=b7 _ ao)|(go_at_call 97;refine(a7 _ (Below.drew (Below.refl _ _))).mono ?_;rintro ex H ⟨rfl,ao⟩;have hk:Below wr wr H:=((Below.refl _ _).drew).trans ao))
    .obtain⟨u,hW6⟩:=ex_ (H.alloc (.cells #[y.pred,y.a,y.b,y.val] 93));have k6:Below wr wr u:=Vm;obtain⟨aX,aY,aZ,a0⟩:u.cell? H=some (.int .i64 y.pred)/\u.cell? ⟨H,1,none⟩=some (.int .i64 y.a)/\u.cell? ⟨H,2,none⟩=some (.int .i64 y.b)/\u.cell? ⟨H,3,none⟩=some (.int .i64 y.val):=Vn;rw[hW6];clear hW6;have aR:=bt_ av k6;obtain⟨J,K,D,N,A⟩:=aD _ k6;have F:=htq.out.1.a k6;have HS6:=hid_ (cL.a k6 htq.out.2.1);have Z:=(nj HS6 Y);have HA6:=a3 u u3 _ y HGQ a6 F.fac aR;have HT6:=hid_ F;have aC:=hid_ (λaH aK=>(F.row.lt aH aK).2);clear F Z;cases hsc:dR (bJ ps) y fq
     .exact Y2
     have HG4':Hid (cV ps r G ((bI G r n).take (k+1))=cy (bJ ps) y fq/\p++w++dH ps r G ((bI G r n).take (k+1))=p++w++sq++[q]/\(dH ps r G ((bI G r n).take (k+1))).isEmpty=false):=⟨HG4.out,WK,WK⟩;rw[hsc] at HA6;go_wp2_with fail;refine HA6.mono ?_;rintro ex W7 ⟨u7,rfl,hf7,hc7,hb7⟩;have af:=hid_ hf7;have ag:=hid_ (cg HT6.out.row hb7);have HS7:=hid_ (cL.a hb7 HS6.out)
     have ac:Hid (lF u7 v3 (cy (bJ ps) y fq)):=.inr λl hb e=>by
      have h1:=hc7.2 l hb;have v:=aC l e;omega
     have ad:=hid_ (HT6.out.bel.trans (hb7.mono HT6.out.bel.size));have aB:Hid (aa<W7.heap.size):=WM;have aQ:=ad.out.size;have az:=hid_ (ah W7 (k6.trans (hb7.mono k6.size)));obtain⟨cj,cl,cm,cn⟩:=az.out;clear hf7 hc7 J K D N A;generalize aJ:p++w++sq=aF at*;have aL:=a9.out;clear aJ;go_wp2_with(at_builtin;refine FF _ rfl _ _ rfl E.heap.size v3 aF q (cg ag (bH _ _)) rfl W7.heap.size rfl 140 (alloc_heap_new W7 _) aL RD ?_;intro aW cz aM S aj);refine⟨⟨k+1,u7,aW,rfl,rfl,Q0,?_,Rv,?_⟩,S6⟩
     .rw[HG4'.out.2.2];simp
     rw[HG4'.out.1,HG4'.out.2.1];have W:=bH W7 (.cells #[q.rule,q.x,q.y,q.z] 140)
     exact⟨⟨(ad.out.alloc aQ _).grown S RD (λk hk=>(ag.out.lt k hk).1),wP (bO.a W af.out) S ac.out,aM,wL af ac (Nat.le_of_lt Q1) aj,bb.out⟩,FC (cL.a W HS7.out) S htq.out.2.2,λl hb e=>by
      rcases aj l e with h1|h1
      .exact htq.out.2.2 l hb h1
      have:=aB.out;simp only[ownBlock,injEq] at hb;simp at h1
      omega⟩
    obtain⟨u,hW6⟩:=ex_ ((((H.setCell wr y.pred).setCell ⟨wr,1,none⟩ y.a).setCell ⟨wr,2,none⟩ y.b).setCell ⟨wr,3,none⟩ y.val);have k6:Below wr wr u:=Vo;obtain⟨aX,aY,aZ,a0⟩:u.cell? wr=some (.int .i64 y.pred)/\u.cell? ⟨wr,1,none⟩=some (.int .i64 y.a)/\u.cell? ⟨wr,2,none⟩=some (.int .i64 y.b)/\u.cell? ⟨wr,3,none⟩=some (.int .i64 y.val):=Vp;rw[hW6];clear hW6;have aR:=bt_ av k6;obtain⟨J,K,D,N,A⟩:=aD _ k6;have F:=htq.out.1.a k6;have HS6:=hid_ (cL.a k6 htq.out.2.1);have Z:=(nj HS6 Y);have HA6:=a3 u u3 _ y HGQ a6 F.fac aR;have HT6:=hid_ F;have aC:=hid_ (λaH aK=>(F.row.lt aH aK).2);clear F Z;cases hsc:dR (bJ ps) y fq
    .exact Y2
    have HG4':Hid (cV ps r G ((bI G r n).take (k+1))=cy (bJ ps) y fq/\p++w++dH ps r G ((bI G r n).take (k+1))=p++w++sq++[q]/\(dH ps r G ((bI G r n).take (k+1))).isEmpty=false):=⟨HG4.out,WK,WK⟩;rw[hsc] at HA6;go_wp2_with fail;refine HA6.mono ?_;rintro ex W7 ⟨u7,rfl,hf7,hc7,hb7⟩;have af:=hid_ hf7;have ag:=hid_ (cg HT6.out.row hb7);have HS7:=hid_ (cL.a hb7 HS6.out)
    have ac:Hid (lF u7 v3 (cy (bJ ps) y fq)):=.inr λl hb e=>by
     have h1:=hc7.2 l hb;have v:=aC l e;omega
    have ad:=hid_ (HT6.out.bel.trans (hb7.mono HT6.out.bel.size));have aB:Hid (aa<W7.heap.size):=WM;have aQ:=ad.out.size;have az:=hid_ (ah W7 (k6.trans (hb7.mono k6.size)));obtain⟨cj,cl,cm,cn⟩:=az.out;clear hf7 hc7 J K D N A;generalize aJ:p++w++sq=aF at*;have aL:=a9.out;clear aJ;go_wp2_with(at_builtin;refine FF _ rfl _ _ rfl E.heap.size v3 aF q (cg ag (bH _ _)) rfl W7.heap.size rfl 140 (alloc_heap_new W7 _) aL RD ?_;intro aW cz aM S aj);refine⟨⟨k+1,u7,aW,rfl,rfl,Q0,?_,Rv,?_⟩,S6⟩
    .rw[HG4'.out.2.2];simp
    rw[HG4'.out.1,HG4'.out.2.1];have W:=bH W7 (.cells #[q.rule,q.x,q.y,q.z] 140)
    exact⟨⟨(ad.out.alloc aQ _).grown S RD (λk hk=>(ag.out.lt k hk).1),wP (bO.a W af.out) S ac.out,aM,wL af ac (Nat.le_of_lt Q1) aj,bb.out⟩,FC (cL.a W HS7.out) S htq.out.2.2,λl hb e=>by
     rcases aj l e with h1|h1
     .exact htq.out.2.2 l hb h1
     have:=aB.out;simp only[ownBlock,injEq] at hb;simp at h1
     omega⟩
   obtain rfl:k=(bI G r n).length:=Q0
   have b2:Hid (aE E ps c u3 v3 (cV ps r G (bI G r n)) (p++w++dH ps r G (bI G r n)) wr):=by
    have h:=htq.out.1;rw[take_length] at h;exact h
   rw[take_length];go_wp2_with fail;refine⟨⟨n+1,u3,v3,rfl,rfl,Q0,?_,Rv,?_⟩,S6⟩
   .rw[I.out.1];cases w<;>simp
   rw[I.out.1,I.out.2,<-append_assoc];exact b2
  obtain rfl:n=c.length:=Q0
  have bC:Hid (gG ps c (d:Int) (fQ ps c (d:Int) f)=gG ps c (d:Int) ab/\p++cX ps c (d:Int) f++gH ps c (d:Int) (fQ ps c (d:Int) f)=aG++gH ps c (d:Int) ab/\((!(cX ps c (d:Int) f).isEmpty)=false->cX ps c (d:Int) (fQ ps c (d:Int) f)=[])):=by
   obtain⟨D,N,A,cr⟩:=bf.out;refine⟨?_,?_,λh=>?_⟩
   .rw[<-X.out.1];by_cases hc:cX ps c (d:Int) f=[]
    .rw[A hc]
    rw[(oK D.r0 hc).1]
   .rw[<-X.out.2.1,append_assoc];by_cases hc:cX ps c (d:Int) f=[]
    .rw[A hc,hc];rfl
    rw[(oK D.r0 hc).2]
   have hc:=Q2;rw[A hc];exact hc
  have bQ:Hid (qM ps g (.bool (!(cX ps c (d:Int) f).isEmpty)) wr<2*(dM-eS ps f)+1):=by
   obtain⟨D,N,A,cr⟩:=bf.out;show _<_;unfold qM;rw[nX m.out.fac];have h1:=ke (cZ D.r1).2;show 2*(dM-eS ps (fQ ps c (d:Int) f))+yZ (.bool (!(cX ps c (d:Int) f).isEmpty))<_;by_cases hc:cX ps c (d:Int) f=[]
   .rw[hc,A hc];show _+0<_;omega
   have v:=length_pos_iff.2 hc
   have an:yZ (.bool (!(cX ps c (d:Int) f).isEmpty))<=1:=by
    cases(!(cX ps c (d:Int) f).isEmpty)
    .exact zero_le _
    exact le_refl _
   omega
  have b3:Hid (aE E ps c g i (fQ ps c (d:Int) f) (p++cX ps c (d:Int) f) wr):=m.out;have bn:d8 ps c (d:Int) f c.length=cX ps c (d:Int) f:=rfl;rw[bn];clear bn;generalize(!(cX ps c (d:Int) f).isEmpty)=b8 at*;go_wp2_with fail;exact⟨⟨b8,g,i,_,_,rfl,rfl,rfl,b3,bC⟩,Nat.lt_of_lt_of_eq bQ b4.out.symm⟩
 obtain rfl:d=cC (bM ps c):=Q0;have cD:¬((cC (bM ps c):Nat):Int)<=((cC (bM ps c):Nat):Int)-1:=Q0;have b5:=hid_ (tI m.out.row (by have:=bh (cC (bM ps c));omega));have b6:=hid_ (au.trans (m.out.bel.mono au.size));go_wp2_with fail;go_ret;exact⟨_,rfl,b5.out,b6.out⟩
theorem i8:bM b9 ca=[0,0,1]:=by
 unfold bM;rw[show b9.length=3 from rfl,Bz];rfl
def nt:List Fct:=[⟨0,0,1,0⟩,⟨0,1,2,0⟩,⟨0,2,0,0⟩,⟨0,3,0,0⟩]
def pP:List Fct:=nt++[⟨1,0,1,1⟩,⟨1,1,2,1⟩,⟨1,2,0,1⟩,⟨1,3,0,1⟩]
def nu:List Fct:=nt++[⟨1,0,1,1⟩,⟨1,0,2,2⟩,⟨1,1,0,2⟩,⟨1,1,2,1⟩,⟨1,2,0,1⟩,⟨1,2,1,2⟩,⟨1,3,0,1⟩,⟨1,3,1,2⟩]
def fX:List Fct:=nt++[⟨1,0,0,3⟩,⟨1,0,1,1⟩,⟨1,0,2,2⟩,⟨1,1,0,2⟩,⟨1,1,1,3⟩,⟨1,1,2,1⟩,⟨1,2,0,1⟩,⟨1,2,1,2⟩,⟨1,2,2,3⟩,⟨1,3,0,1⟩,⟨1,3,1,2⟩,⟨1,3,2,3⟩]
def js:List Fct:=fX++[⟨2,3,0,0⟩]
theorem X6(h:p:=by rw[lH];simp):p:=h
theorem pO{f}(a:bW b9 f=0):bS b9 ca f=0:=by rw[bS,if_neg X6,a]
theorem tO:bS b9 ca []=0:=pO SN
theorem wU:bS b9 ca nt=0:=pO SN
theorem wV:bS b9 ca pP=0:=pO SN
theorem tP:bS b9 ca nu=0:=pO SN
theorem pQ:bS b9 ca fX=0:=pO SN
theorem A7:bS b9 ca js=0:=pO SN
set_option maxRecDepth 100000
theorem rm:bV b9 ca [] 0=nt/\cM b9 ca [] 0=true:=by
 rw[bV,cM,tO,i8];exact⟨SI,SI⟩
theorem rp:bV b9 ca nt 0=pP/\cM b9 ca nt 0=true:=by
 rw[bV,cM,wU,i8];exact⟨SI,SI⟩
theorem rq:bV b9 ca pP 0=nu/\cM b9 ca pP 0=true:=by
 rw[bV,cM,wV,i8];exact⟨SI,SI⟩
theorem rr:bV b9 ca nu 0=fX/\cM b9 ca nu 0=true:=by
 rw[bV,cM,tP,i8];exact⟨SI,SI⟩
theorem AJ:cM b9 ca fX 0=false:=by
 rw[cM,pQ,i8];kernel_rfl
theorem rt:bV b9 ca fX 1=js/\cM b9 ca fX 1=true:=by
 rw[bV,cM,pQ,i8];exact⟨SI,SI⟩
theorem AK:cM b9 ca js 1=false:=by
 rw[cM,A7,i8];kernel_rfl
theorem wO:dw b9 ca 0 []=fX/\eA b9 ca 0 []=4:=by
 have a:=me tO rm.2;have b:=me wU rp.2;have c:=me wV rq.2;have d:=me tP rr.2;have f:=oV AJ;rw[rm.1] at a;rw[rp.1] at b;rw[rq.1] at c;rw[rr.1] at d;rw[a.1,a.2,b.1,b.2,c.1,c.2,d.1,d.2,f.1,f.2];exact⟨rfl,rfl⟩
theorem AT:dw b9 ca 1 fX=js/\eA b9 ca 1 fX=1:=by
 have a:=me pQ rt.2;have b:=oV AK;rw[rt.1] at a;rw[a.1,a.2,b.1,b.2];exact⟨rfl,rfl⟩
theorem A5:iV b9 ca=js/\mK b9 ca=[4,1]:=by
 rw[iV,mK,if_neg X6,if_neg X6,dg,iW,i8];rw[show cC [0,0,1]=2 from rfl,wW,wW,cQ,cQ,cQ];show dw b9 ca 1 (dw b9 ca 0 [])=js/\[]++[eA b9 ca 0 []]++[eA b9 ca 1 (dw b9 ca 0 [])]=[4,1];rw[wO.1,wO.2,AT.1,AT.2];exact⟨rfl,rfl⟩
attribute [local go_sem] semAt_some
def nP(ps:List Prd)(rs:List Rul):List Stp:=if bP ps rs≠0 then[] else mx ps rs
structure aS (W2:World) (ps:List Prd) (rs:List Rul) (pv rv sv:Value) (Ds:List Nat) (f:List Fct) (out:List Stp) (u vo:Value) (x:World):Prop where
 bel:Below W2 W2 x
 clk:ib x (W2.heap.size+1) pv rv u
 fac:bO x u f
 cap:eQ u
 fre:jF (W2.heap.size+1+1) (W2.heap.size+1) x u
 box:Boxed x (W2.heap.size+1+1) 86 vo
 row:x.ownsRow (W2.heap.size+1+1+1) 140 4 vo out (cY out)
 sbx:Boxed x W2.heap.size 68 sv
 ndp:Ds.Nodup
 mrk:∀D∈Ds,W2.heap.size<=D/\x.heap[D]? =some (.deferred (some []))
 rig:bS ps rs f=0
theorem aS.a{b:World}{i:List Prd}{k:List Rul}{j l m:Value}{d:List Nat}{f:List Fct}{h:List Stp}{n o:Value}{c:World}(g:aS b i k j l m d f h n o c):b.heap.size+1+1<c.heap.size:=g.box.lt
theorem aS.b{l:World}{o:List Prd}{q:List Rul}{p r s:Value}{k:List Nat}{f:List Fct}{n:List Stp}{t u:Value}{j v:World}(c:aS l o q p r s k f n t u j)(d:Below j j v):aS l o q p r s k f n t u v:=by
 have x:=c.a
 exact⟨c.bel.trans (d.mono c.bel.size),pu d c.clk,bO.a d c.fac,c.cap,λw i=>by
  obtain⟨y,z,A⟩:=c.fre w i
  exact⟨y,z,fun⟨B,m,i⟩=>A ⟨B,by rw[bF d x] at m;exact m,i⟩⟩,(d.block _ c.box.lt).trans c.box,cg c.row d,(d.block _ c.sbx.lt).trans c.sbx,c.ndp,λg h=>⟨(c.mrk g h).1,(d.block g (Array.getElem?_eq_some_iff.1 (c.mrk g h).2).1).trans (c.mrk g h).2⟩,c.rig⟩
theorem QG{c d:World}{g:Value}{l:List Stp}(h:cL c g l)(hc:∀b o f,c.cell? ⟨b,o,none⟩=some f->d.cell? ⟨b,o,none⟩=some f)(hs:c.heap.size<=d.heap.size):cL d g l:=by
 exact Zw
def QB:Value->Int
 | .slice _ n _=>n
 |_=>0
noncomputable def vM(ps:List Prd)(BC Bo:Nat)(z:Int)(w':World):Nat:=2*nW ps ((w'.cell? ⟨BC,2,none⟩).getD undef) w'+if z=QB ((w'.cell? Bo).getD undef) then 0 else 1
theorem td{j:World}{d:Nat}{b:Value}{a:List Stp}(h:j.ownsRow d 140 4 b a (cY a)):∃c f,b=.slice c a f:=by
 rcases h.2 with⟨rfl,i⟩|⟨l,g,k,rfl,_⟩
 .exact⟨none,0,by rw[i]⟩
 exact⟨_,g,rfl⟩
theorem X8(h:p:=by simp[cell?,hxx]):p:=h
theorem Qs(A:World)(aJ aL:Value)(g:List Prd)(h:List Rul)(bq:bR A aJ g)(G:ck A aL h)(aH:dU g):Calls Tryz.prog 75 #[.agg #[aJ,aL]] A λe ah=>∃T,e=.returned (.tuple #[T,.int .i64 (bP g h)])/\cL ah T (nP g h)/\eQ T/\Below A A ah:=by
 have bE:Hid (∀k,Below A A k->Calls Tryz.prog 28 #[.agg #[aJ,aL]] k λe ah=>(∃H,e=.returned (.tuple #[H,.int .i64 (bP g h)])/\(bP g h≠0->H=.slice none 0 0)/\(bP g h=0->dD ah H (bM g h)))/\Below k k ah):=λk hx=>(pS k aJ aL g h (bR.a hx bq) (ck.a hx G) aH).mono λ_ _ ⟨⟨H,L,F,ab⟩,bj⟩=>⟨⟨H,L,F,λu=>ab _ (iq u).1 u⟩,bj⟩;have a9:Hid (bR A aJ g/\ck A aL h/\dU g):=⟨bq,G,aH⟩;obtain⟨q,r,rfl,_⟩:=bq;obtain⟨v,w,rfl,_⟩:=G;obtain⟨a0,hW1⟩:=ex_ (A.alloc (.cells #[.slice q g r,.slice v h w] 30));have a1:Below A A a0:=VO;have ch:a0.cell? A=some (.slice q g r)/\a0.cell? ⟨A,1,none⟩=some (.slice v h w)/\A.heap.size<a0.heap.size:=Wz;by_cases hpe:bP g h=0
 .have aZ:=hid_ hpe;refine(callsIn_wide (n:=6)).1 (callsIn_of_wp_marks func75 rfl trivial (wpIn_wide.2 ?_) rfl);simp only[ntmps75,size_toArray,length_cons,length_nil,reduceAdd,reduceSub,replicate_succ,replicate_zero,push_toArray,append_toArray,nil_append,cons_append];go_wp2_with fail;clear hW1;refine(bE _ a1).mono ?_;rintro e i ⟨⟨cU,rfl,_,b5⟩,a5⟩;have af:=bt_ a1 a5;have br:=b5 hpe;obtain⟨D,E,rfl,_⟩:=id br;obtain⟨bT,cB,cQ⟩:=jL a5 ch;rw[hpe];obtain⟨ai,aD⟩:=ex_ (((i.alloc (.cells #[.slice D (bM g h).length E] 68)).alloc (.cells #[.slice q g r,.slice v h w,.slice none 0 0] 172)).alloc (.cells #[.slice none 0 0] 86));have be:Below i i ai:=by rw[<-aD];exact(((Below.refl _ _).alloc (le_refl _) _).alloc Q1 _).alloc RD _
  have cD:=(bF be cQ).trans bT
  have bL:Boxed ai i 68 (.slice D (bM g h).length E):=by
   have u:=alloc_heap_new i (.cells #[.slice D (bM g h).length E] 68);show ai.heap[i.heap.size]? =_;rw[<-aD,Below.heap_alloc _ _ _ RD,Below.heap_alloc _ _ _ Q1];exact u
  have bN:ib ai (i.heap.size+1) (.slice q g r) (.slice v h w) (.slice none 0 0):=by
   have u:=alloc_heap_new (i.alloc (.cells #[.slice D (bM g h).length E] 68)) (.cells #[.slice q g r,.slice v h w,.slice none 0 0] 172);rw[size_alloc] at u;show ai.heap[i.heap.size+1]? =_;rw[<-aD,Below.heap_alloc _ _ _ Q1];exact u
  have bO:Boxed ai (i.heap.size+1+1) 86 (.slice none 0 0):=by
   have u:=alloc_heap_new ((i.alloc (.cells #[.slice D (bM g h).length E] 68)).alloc (.cells #[.slice q g r,.slice v h w,.slice none 0 0] 172)) (.cells #[.slice none 0 0] 86);rw[size_alloc,size_alloc] at u;show ai.heap[i.heap.size+1+1]? =_;rw[<-aD];exact u
  go_wp2_with fail;clear aD bT cB cD;have cA:aS i g h (.slice q g r) (.slice v h w) (.slice D (bM g h).length E) [] [] [] (.slice none 0 0) (.slice none 0 0) ai:=⟨be,bN,ie _,qQ,(λaC V=>by cases V),bO,⟨rfl,.inl ⟨rfl,rfl⟩⟩,bL,List.nodup_nil,(λp M=>by cases M),tN hpe⟩;have aB:Hid (bR i (.slice q g r) g/\ck i (.slice v h w) h/\dD i (.slice D (bM g h).length E) (bM g h)/\dU g/\(bM g h).length=g.length):=⟨bR.a af a9.out.1,ck.a af a9.out.2.1,br,a9.out.2.2,(iq hpe).2⟩;have dc:=(gN (gO hpe).1).1;have cs:=hid_ λj (b6:g.length<=j)=>QM hpe (le_trans (vL hpe) b6)
  have bI:Hid (∀j,(dh g h j).2.length<=2000):=λj=>by
   have L:=(vN hpe j).1;have F:=ke (cZ (vO hpe j)).2;rw[oW] at F;omega
  have ct:Hid (nP g h=(dh g h (cC (bM g h))).2):=by show _=_;rw[nP,if_neg Ui];rfl
  clear bL bN bO be b5 br hpe;obtain⟨bc,bl⟩:∃bc:Act->World->Prop,Hid (bc=(λR wr=>∃(J:List Nat) (cd cf ar aM bv ca cb cc aN aO aP aQ aR aT aU aV aW aX au av aw ax a7:Value),(∃(j:Nat) (T ay:Value),j<=g.length/\bv=.int .i64 j/\Hid (aS i g h (.slice q g r) (.slice v h w) (.slice D (bM g h).length E) J (dh g h j).1 (dh g h j).2 T ay wr))/\R={tmps:=#[.agg #[.slice q g r,.slice v h w],.pointer (some ⟨A,0,none⟩),.slice none 0 0,.int .i64 0,.pointer (some ⟨i,0,none⟩),.int .i64 0,.pointer (some ⟨i.heap.size+1,0,none⟩),.pointer (some ⟨i.heap.size+1+1,0,none⟩),cd,cf,ar,aM,.tuple #[.slice D (bM g h).length E,.int .i64 0],.agg #[.slice q g r,.slice v h w],.tuple #[.slice D (bM g h).length E,.int .i64 0],.slice D (bM g h).length E,.int .i64 0,.int .i64 0,.bool false,undef,.agg #[.slice q g r,.slice v h w],.agg #[.slice q g r,.slice v h w,.slice none 0 0],.pointer (some ⟨i.heap.size+1,0,none⟩),.pointer (some ⟨A,0,none⟩),.slice q g r,.int .i64 (g.length:Int),bv,ca,cb,cc,aN,aO,aP,aQ,aR,aT,aU,aV,aW,aX,au,av,aw,ax,a7,undef],defers:=J.map lI})):=⟨_,rfl⟩;refine wp_loop bc (λR _=>g.length-(intOf (R.tmps.getD 26 undef)).toNat) ?_ ?_
  .rw[bl.out];refine⟨[],?_⟩;(repeat apply Exists.intro);refine⟨?_,rfl⟩;exact⟨0,_,_,zero_le _,rfl,cA⟩
  intro R wr aF;rw[bl.out] at aF;obtain⟨J,cd,cf,ar,aM,bv,ca,cb,cc,aN,aO,aP,aQ,aR,aT,aU,aV,aW,aX,au,av,aw,ax,a7,⟨j,T,ay,b6,rfl,t⟩,rfl⟩:=aF;by_cases c9:j<g.length
  .have dd:(j:Int)<(g.length:Int):=Q0;generalize cG:wr.heap.size=I;obtain⟨bK,bm⟩:=ex_ (wr.alloc (.cells #[j] 3));have bQ:Below wr wr bK:=by rw[<-bm];exact bH _ _
   have bJ:Boxed bK I 3 j:=by rw[<-bm,<-cG];exact alloc_heap_new wr _
   have bG:=t.out.b bQ;have ba:Hid ((dh g h (j+1)).1=gG g h (j:Int) (dh g h j).1/\(dh g h (j+1)).2=(dh g h j).2++gH g h (j:Int) (dh g h j).1):=⟨rfl,rfl⟩;have cn:=hid_ (bI (j+1));generalize cH:(dh g h j).1=aA at*;generalize cI:(dh g h j).2=bd at*;have cp:Hid (i.heap.size+1+1<I):=by show _<_;have:=t.out.a;omega
   clear cH cI t bQ;go_wp2_with fail;clear bm;have c3:i.heap.size+1+1<I:=by have:=cp.out;omega
   obtain⟨bb,bk⟩:∃bb:Act->World->Prop,Hid (bb=(λR wr=>∃(J:List Nat) (ar aM aN aO aP aQ aR aT aU aV aW aX au av aw ax:Value),(∃(Z:Int) (T ay:Value) (B:List Fct) (m:List Stp),ar=.int .i64 Z/\Hid (aS i g h (.slice q g r) (.slice v h w) (.slice D (bM g h).length E) J B m T ay wr/\Boxed wr I 3 j)/\Hid (gG g h (j:Int) B=gG g h (j:Int) aA/\m++gH g h (j:Int) B=bd++gH g h (j:Int) aA/\ -1<=Z/\Z<=(m.length:Int)/\(Z=(m.length:Int)->cX g h (j:Int) B=[])))/\R={tmps:=#[.agg #[.slice q g r,.slice v h w],.pointer (some ⟨A,0,none⟩),.slice none 0 0,.int .i64 0,.pointer (some ⟨i,0,none⟩),.int .i64 0,.pointer (some ⟨i.heap.size+1,0,none⟩),.pointer (some ⟨i.heap.size+1+1,0,none⟩),.pointer (some ⟨I,0,none⟩),.func (.func 120) #[] #[.pointer (some ⟨i,0,none⟩),.pointer (some ⟨I,0,none⟩)],ar,aM,.tuple #[.slice D (bM g h).length E,.int .i64 0],.agg #[.slice q g r,.slice v h w],.tuple #[.slice D (bM g h).length E,.int .i64 0],.slice D (bM g h).length E,.int .i64 0,.int .i64 0,.bool false,undef,.agg #[.slice q g r,.slice v h w],.agg #[.slice q g r,.slice v h w,.slice none 0 0],.pointer (some ⟨i.heap.size+1,0,none⟩),.pointer (some ⟨A,0,none⟩),.slice q g r,.int .i64 (g.length:Int),.int .i64 (j:Int),.bool true,.int .i64 (j:Int),.func (.func 120) #[] #[.pointer (some ⟨i,0,none⟩),.pointer (some ⟨I,0,none⟩)],aN,aO,aP,aQ,aR,aT,aU,aV,aW,aX,au,av,aw,ax,a7,undef],defers:=J.map lI})):=⟨_,rfl⟩;refine wp_loop bb (λR ah=>vM g (i.heap.size+1) (i.heap.size+1+1) (intOf (R.tmps.getD 10 undef)) ah) ?_ ?_
   .rw[bk.out];refine⟨J,?_⟩;(repeat apply Exists.intro);refine⟨?_,rfl⟩;exact⟨-1,T,ay,aA,bd,rfl,⟨bG,bJ⟩,⟨rfl,rfl,Q0,Q0,λu=>Q0⟩⟩
   clear bG bJ;intro R P aF;rw[bk.out] at aF;obtain⟨J,ar,aM,aN,aO,aP,aQ,aR,aT,aU,aV,aW,aX,au,av,aw,ax,⟨Z,T,ay,B,m,rfl,t,al⟩,rfl⟩:=aF;obtain⟨ap,aq,bs⟩:=td t.out.1.row;subst bs;have bW:=t.out.1.box.cell;by_cases ae:Z<(m.length:Int)
   .go_wp2_with fail;refine mo_ (Qp P (i.heap.size+1) _ _) λU aE=>?_;have bS:Below P P U:=by rw[aE];exact((Below.refl _ _).alloc (le_refl _) _).alloc Q1 _
    have dp:U.heap.size=P.heap.size+1+1:=by rw[aE];simp
    have b8:Boxed U P 170 (.pointer (some ⟨i.heap.size+1,0,none⟩)):=by rw[aE];exact(Below.heap_alloc _ _ _ Q1).trans (alloc_heap_new P _)
    have b9:Boxed U (P.heap.size+1) 173 (.func (.func 120) #[] #[.pointer (some ⟨i,0,none⟩),.pointer (some ⟨I,0,none⟩)]):=by
     rw[aE];have u:=alloc_heap_new (P.alloc (.cells #[.pointer (some ⟨i.heap.size+1,0,none⟩)] 170)) (.cells #[.func (.func 120) #[] #[.pointer (some ⟨i,0,none⟩),.pointer (some ⟨I,0,none⟩)]] 173);rwa[size_alloc] at u
    have l:=t.out.1.b bS;have a3:Boxed U I 3 j:=(bS.block _ t.out.2.lt).trans t.out.2;have da:=t.out.1.a;have c4:=t.out.2.lt
    have co:Hid (m.length+(cX g h (j:Int) B).length<=2000):=by
     have L:=cn.out;have F:=FE (s:=(j:Int)) t.out.1.rig;have ab:=congrArg List.length al.out.2.1;rw[ba.out.2,length_append] at L;rw[length_append,length_append] at ab;show _<=_;omega
    have cv:Hid (∀(k:World) (S:Nat) (aH:S<h.length) (bn:Option Addr) (C:Nat) (bf:Option Addr) (bg:Nat),Zed i.heap.size (i.heap.size+1+1) (λW=>W=i.heap.size+1) U k->Calls Tryz.prog 120 (#[.agg #[.int .i64 h[S].head.pred,.slice bn h[S].head.args.length C,.int .i64 h[S].src,.int .i64 h[S].n,.slice bf h[S].body.length bg]]++#[.pointer (some ⟨i,0,none⟩),.pointer (some ⟨I,0,none⟩)]) k λe ah=>e=.returned (.bool (ce (bM g h) (j:Int) h[S]))/\Below k k ah):=λk S aH bn C bf bg hx=>by
     obtain⟨W,ac,e⟩:=fd.1 (gP (f_ (eU aZ _ (getElem_mem aH))).1).1;exact QK k i.heap.size I W _ (bM g h) (j:Int) h[S] bn h[S].head.args.length C bf h[S].body.length bg e (by rw[aB.out.2.2.2.2];exact ac) (hx.b Q0 Q0 (pw l.box l.row l.sbx SN) l.sbx.cell) (hx.b Q0 Q0 (pw l.box l.row a3 SN) a3.cell) (dD.a (l.bel.trans hx.below) aB.out.2.2.1) VI VI
    have bD:OwnFrom U.heap.size (fun(K:List Stp) (o:World)=>(∃H,Boxed o (i.heap.size+1+1) 86 H/\o.ownsRow (i.heap.size+1+1+1) 140 4 H (m++K).length (cY (m++K))/\True)/\Zed i.heap.size (i.heap.size+1+1) (λW=>W=i.heap.size+1) U o/\∀p∈J,o.heap[p]? =some (.deferred (some []))):=by
     rintro K aj az bu ⟨L,F,ab⟩ O G;refine⟨holdsRow_own (i.heap.size+1+1+1) (i.heap.size+1+1) 86 140 4 (λK=>(m++K).length) (λK=>cY (m++K)) (λ_ _=>True) K aj az bu L O (λag e=>(G ag e).2),QS F O Q0 Q0 G,λp M=>?_⟩;have c6:=(Array.getElem?_eq_some_iff.1 (l.mrk p M).2).1;exact(O.block p (Array.getElem?_eq_some_iff.1 (ab p M)).1 (λe=>by have:=(G p e.symm).1;omega)).trans (ab p M)
    clear aE bW;go_wp2_with fail;refine(wpIn_wide (n:=6)).1 (Jv (α:=Stp) rfl Q0 (gf:=167) (lb:=#[.pointer (some ⟨P,0,none⟩),.pointer (some ⟨P.heap.size+1,0,none⟩)]) rfl trivial (enters_of func167 SI rfl) (Qo (6-1) Q0 P (P.heap.size+1) (i.heap.size+1) (i.heap.size+1+1) i _ _ T 120 _ g h (j:Int) B U Q0 Q0 Q0 Q0 (pw l.box l.row l.clk SN) Q0 Q0 (pw l.box l.row b8 SN) Q0 Q0 (pw l.box l.row b9 SN) b8.cell b9.cell l.clk l.fac l.cap l.fre i rfl l.bel aB.out.1 aB.out.2.1 aB.out.2.2.2.1 l.rig (enters_of func120 SI rfl) cv.out) Zed.a (λo W a6 di ac u aI _=>QT (N:=U.heap.size) ac Q0 Q0 u aI) (Below.refl _ _) (λ_=>rfl) (by rintro aj az ⟨am,rfl⟩ W a6 ac aI;exact(KeepsOthers.setCell _ _ _).same W a6 ac aI) (λK o=>(∃H,Boxed o (i.heap.size+1+1) 86 H/\o.ownsRow (i.heap.size+1+1+1) 140 4 H (m++K).length (cY (m++K))/\True)/\Zed i.heap.size (i.heap.size+1+1) (λW=>W=i.heap.size+1) U o/\∀p∈J,o.heap[p]? =some (.deferred (some []))) ?stable ?has ?own ?ownE ⟨⟨_,l.box,by rw[append_nil];exact l.row,trivial⟩,Zed.e _ _ _ _,λp M=>(l.mrk p M).2⟩ (λk R o=>∃aa,U.heap.size<=aa/\o.heap[aa]? =some (.cells #[k.rule,k.x,k.y,k.z] 140 (0,0))/\R={tmps:=#[.agg #[.slice q g r,.slice v h w],.pointer (some ⟨A,0,none⟩),.slice none 0 0,.int .i64 0,.pointer (some ⟨i,0,none⟩),.int .i64 0,.pointer (some ⟨i.heap.size+1,0,none⟩),.pointer (some ⟨i.heap.size+1+1,0,none⟩),.pointer (some ⟨I,0,none⟩),.func (.func 120) #[] #[.pointer (some ⟨i,0,none⟩),.pointer (some ⟨I,0,none⟩)],.int .i64 (m.length:Int),.pointer (some ⟨aa,0,none⟩),.tuple #[.slice D (bM g h).length E,.int .i64 0],.agg #[.slice q g r,.slice v h w],.tuple #[.slice D (bM g h).length E,.int .i64 0],.slice D (bM g h).length E,.int .i64 0,.int .i64 0,.bool false,undef,.agg #[.slice q g r,.slice v h w],.agg #[.slice q g r,.slice v h w,.slice none 0 0],.pointer (some ⟨i.heap.size+1,0,none⟩),.pointer (some ⟨A,0,none⟩),.slice q g r,.int .i64 (g.length:Int),.int .i64 (j:Int),.bool true,.int .i64 (j:Int),.func (.func 120) #[] #[.pointer (some ⟨i,0,none⟩),.pointer (some ⟨I,0,none⟩)],.int .i64 Z,.slice ap m aq,.int .i64 (m.length:Int),.bool true,.slice ap m aq,.int .i64 (m.length:Int),.pointer (some ⟨i.heap.size+1,0,none⟩),.func (.func 120) #[] #[.pointer (some ⟨i,0,none⟩),.pointer (some ⟨I,0,none⟩)],.func (.func 167) #[] #[.pointer (some ⟨P,0,none⟩),.pointer (some ⟨P.heap.size+1,0,none⟩)],.agg #[k.rule,k.x,k.y,k.z],au,av,aw,ax,a7,undef],defers:=[]}) ?ownA ?assign ?body ?done)
    case stable=>
     rintro K aj az ⟨⟨H,V,G,_⟩,ae,aG⟩ ⟨am,rfl⟩;exact⟨⟨H,(kY Q0).trans V,vY G (λak O=>by have:=(s_ G ak O).1;omega),trivial⟩,ae.a (Zed.f aj am Q0 Q0 rfl),λp M=>(KeepsOthers.setCell _ _ _).same _ _ (aG p M) rfl⟩
    case has=>
     rintro K aj ⟨⟨H,V,G,_⟩,_⟩;refine⟨H,V.cell,λW ac=>?_⟩;obtain⟨_,a6,aI,_⟩:=s_ G W ac;exact(Array.getElem?_eq_some_iff.1 aI).1
    case own=>exact bD
    case ownE=>
     rintro c0 aj az bu ⟨L,am,a8,F,ab,bj,cE,cF⟩ O G;exact⟨L,am,a8,(grownBy_keeps_cells O (λag e=>(G ag e).2) F rfl).trans F,rD ab O (λag e=>(G ag e).2),bj,cell_kept cE O (λag e=>(G ag e).2),cF⟩
    case ownA=>
     rintro k R _ aj az bu ⟨aa,L,F,ab⟩ O G;exact⟨aa,L,(grownBy_keeps_cells O (λag e=>(G ag e).2) F rfl).trans F,ab⟩
    case assign=>
     rintro cR K k o c1 _ b1 a4;dsimp only[ze] at a4⊢;gi_wp2;have b4:=b1.2.1.size;exact a4 _ _ ((KeepsOthers.alloc _ _).from _) (Zed.c (bH _ _) Q0 Q0) (bD.alloc _ b1) ⟨o,b4,alloc_heap_new o _,rfl⟩
    case body=>
     rintro cR K k R o c7 _ ⟨⟨H,X,ad,_⟩,ae,aG⟩ ⟨aa,c5,hxx,rfl⟩ c8;have bC:Hid ((m++K).length<=5000):=by show _<=_;have:=co.out;rw[length_append];omega
     obtain⟨Q,bZ⟩:∃Q,Hid (m++K=Q):=⟨_,rfl⟩;rw[bZ.out] at ad bC;have cJ:=bC.out;obtain⟨an,ao,cO⟩:=td ad;subst cO;have b4:=ae.size;have de:=X.cell;obtain⟨dk,dl,dm,dn⟩:o.cell? aa=some (.int .i64 k.rule)/\o.cell? ⟨aa,1,none⟩=some (.int .i64 k.x)/\o.cell? ⟨aa,2,none⟩=some (.int .i64 k.y)/\o.cell? ⟨aa,3,none⟩=some (.int .i64 k.z):=⟨X8,X8,X8,X8⟩;have cM:(o.alloc (.cells #[k.rule,k.x,k.y,k.z] 140)).ownsRow (i.heap.size+1+1+1) 140 4 (.slice an Q ao) Q (cY Q):=cg ad (bH _ _);have cr:=hid_ (X.not_row SN ad);have cy:Hid (∀Y aY,(o.alloc (.cells #[k.rule,k.x,k.y,k.z] 140)).grownBy Y (Value.slice an Q ao).ownBlock->(∀ak,aY.ownBlock=some ak->(Value.slice an Q ao).ownBlock=some ak\/ak=(o.alloc (.cells #[k.rule,k.x,k.y,k.z] 140)).heap.size)->Zed i.heap.size (i.heap.size+1+1) (λ_=>False) o (Y.setCell ⟨(i.heap.size+1+1),0,none⟩ aY)/\KeepsOthers o (Y.setCell ⟨(i.heap.size+1+1),0,none⟩ aY)):=λY aY L F=>QR _ X ad Q0 Q0 L F;have ci:Hid (∀Y,(o.alloc (.cells #[k.rule,k.x,k.y,k.z] 140)).grownBy Y (Value.slice an Q ao).ownBlock->Boxed Y (i.heap.size+1+1) 86 (.slice an Q ao)):=λY O=>(O.block _ RD cr.out).trans ((Below.heap_alloc _ _ _ X.lt).trans X);gi_wp2_with (first|(gi_at_builtin;refine QQ _ rfl _ _ rfl (i.heap.size+1+1+1) (.slice an Q ao) Q k cM rfl o.heap.size rfl 140 (alloc_heap_new o _) cJ RD ?_;intro aY Y bp b0 cK;have bo:=ci Y b0;obtain⟨cV,cW,cP⟩:=td bp;subst cP;have df:=bo.cell;have dg:=bo.frozen));have b2:(Q++[k]).length=Q.length+1:=Q1;obtain⟨bw,bx⟩:=cy Y _ b0 cK;have b3:=vY (b:=i.heap.size+1+1) (o:=0) (u:=Value.slice cV (Q++[k]).length cW) bp (λak O=>by have:=(s_ bp ak O).1;omega);rw[b2] at bw bx b3;refine⟨bx.from _,bw,⟨_,bo.set _,?_,trivial⟩,ae.a (bw.d (λ_ u=>u.elim)),λp M=>bx.same _ _ (aG p M) rfl⟩;rw[<-append_assoc,bZ.out,b2];exact b3
    rintro p c0 o M ⟨rfl,am,a8,bh,bi,bU,bV,a2⟩ ⟨⟨H,X,ad,_⟩,ae,aG⟩ a4;rw[X.cell] at bV;cases bV
    obtain⟨bt,cS,aK,cT⟩:=te (s:=(j:Int)) l.rig
    have cu:Hid (aS i g h (.slice q g r) (.slice v h w) (.slice D (bM g h).length E) (p::J) (fQ g h (j:Int) B) (m++cX g h (j:Int) B) am a8 o):=⟨l.bel.trans ae.below,bh,bi,bU,λaC V=>⟨(a2 aC V).1,(a2 aC V).2.1,fun⟨dq,b7,ac⟩=>by
     rw[X.cell] at b7;cases b7
     exact(a2 aC V).2.2 ac⟩,X,ad,ae.same _ _ Q0 Q0 (pw l.box l.row l.sbx SN) l.sbx rfl,List.nodup_cons.2 ⟨λu=>by
     have:=(Array.getElem?_eq_some_iff.1 (l.mrk p u).2).1
     omega,l.ndp⟩,λbz hD'=>by
     rcases mem_cons.1 hD' with rfl|hD'
     .exact⟨Q0,a4⟩
     exact⟨(l.mrk bz hD').1,aG bz hD'⟩,bt.r1⟩
    have cj:Hid (Boxed o I 3 j):=ae.same _ _ Q0 Q0 (pw l.box l.row a3 SN) a3 rfl
    have cm:Hid (gG g h (j:Int) (fQ g h (j:Int) B)=gG g h (j:Int) aA/\m++cX g h (j:Int) B++gH g h (j:Int) (fQ g h (j:Int) B)=bd++gH g h (j:Int) aA/\ -1<=(m.length:Int)/\(m.length:Int)<=((m++cX g h (j:Int) B).length:Int)/\((m.length:Int)=((m++cX g h (j:Int) B).length:Int)->cX g h (j:Int) (fQ g h (j:Int) B)=[])):=by
     refine⟨?_,?_,Q0,by rw[length_append];omega,λu=>?_⟩
     .rw[<-al.out.1];by_cases C:cX g h (j:Int) B=[]
      .rw[aK C]
      rw[(oK l.rig C).1]
     .rw[<-al.out.2.1,append_assoc];by_cases C:cX g h (j:Int) B=[]
      .rw[aK C,C];rfl
      rw[(oK l.rig C).2]
     have C:cX g h (j:Int) B=[]:=by
      rw[length_append] at u;exact List.eq_nil_of_length_eq_zero Q0
     rw[aK C];exact C
    have cq:Hid (vM g (i.heap.size+1) (i.heap.size+1+1) (m.length:Int) o<vM g (i.heap.size+1) (i.heap.size+1+1) Z P):=by
     obtain⟨an,ao,rfl⟩:=td ad;show _<_;unfold vM;rw[(nO bh).2.2.1,X.cell,(nO t.out.1.clk).2.2.1,t.out.1.box.cell,getD_some,getD_some,getD_some,getD_some,nX bi,nX t.out.1.fac];have L:=ke (cZ bt.r1).2;show _+(if(m.length:Int)=((m++cX g h (j:Int) B).length:Int) then 0 else 1)<_+(if Z=(m.length:Int) then 0 else 1);rw[if_neg (show¬Z=(m.length:Int) by omega)];by_cases C:cX g h (j:Int) B=[]
     .rw[if_pos (by rw[C,append_nil]),aK C];omega
     have F:=length_pos_iff.2 C;rw[if_neg (by rw[length_append];omega)];omega
    clear bt cS aK cT bh bi bU a2 X ad;go_wp2_with fail;refine⟨?_,cq.out⟩;rw[bk.out];refine⟨p::J,?_⟩;(repeat apply Exists.intro);refine⟨?_,rfl⟩;exact⟨(m.length:Int),am,a8,_,_,rfl,⟨cu.out,cj.out⟩,cm.out⟩
   have cz:Hid (Z=(m.length:Int)):=by have:=al.out.2.2.2.1;show _=_;omega
   obtain⟨bX,bY⟩:=sV (al.out.2.2.2.2 cz.out)
   have bB:Hid ((dh g h (j+1)).1=B/\(dh g h (j+1)).2=m):=by
    have L:=al.out.1;have F:=al.out.2.1;rw[bX] at L;rw[bY,append_nil] at F;exact⟨by rw[ba.out.1,<-L],by rw[ba.out.2,<-F]⟩
   have dj:(j:Int)<=5:=Q0;clear bX bY;go_wp2_with fail;refine⟨?_,S6⟩;rw[bl.out];refine⟨J,?_⟩;(repeat apply Exists.intro);refine⟨?_,rfl⟩;refine⟨j+1,T,.slice ap m aq,Q0,Rv,?_⟩;rw[bB.out.1,bB.out.2];exact t.out.1
  obtain rfl:j=g.length:=Q0;obtain⟨ap,aq,bs⟩:=td t.out.row;subst bs;have bW:=t.out.box.cell
  have cw:Hid (cL wr (.slice ap (dh g h g).2.length aq) (nP g h)):=by
   have u:=tI t.out.row (by have:=bI g.length;omega);rw[ct.out,<-cs g (le_refl _)];exact u
  have cx:=hid_ (af.trans (t.out.bel.mono af.size));have cl:=hid_ (zB t.out.row);have bA:Hid (J.Nodup/\∀p∈J,A.heap.size<=p/\wr.heap[p]? =some (.deferred (some []))):=⟨t.out.ndp,λp M=>⟨le_trans af.size (t.out.mrk p M).1,(t.out.mrk p M).2⟩⟩;go_wp2_with fail;show LeavesInM _ _ _ _ _ _ (J.map lI) _ _;refine pT A J _ bA.out.1 bA.out.2 λc2 V C=>?_;refine⟨.tuple #[.slice ap (dh g h g).2.length aq,.int .i64 0],by simp[results,f75,go_sem],?_⟩;rw[aZ.out];exact⟨_,rfl,QG cw C V.size,cl.out,cx.out.trans V⟩
 have aZ:Hid (nP g h=[]):=by show _=_;rw[nP,if_pos hpe]
 have db:(bP g h==0)=false:=SD;rw[aZ.out];go_enter func75,ntmps75;go_wp2_with fail;clear hW1;refine(bE _ a1).mono ?_;rintro e i ⟨⟨cU,rfl,cN,_⟩,a5⟩;obtain rfl:=cN hpe;have af:=bt_ a1 a5;go_wp2_with fail;refine bodyPost_ret (v:=.tuple #[.slice none 0 0,.int .i64 (bP g h)]) (by simp[results,results75,go_sem]) rfl ?_;exact⟨_,rfl,⟨none,0,rfl,Q1,.inl rfl⟩,qQ,by first|exact af|exact af.alloc af.size _⟩
theorem Qr(a:World)(f g:Value)(b:List Prd)(c:List Rul)(m:bR a f b)(n:ck a g c)(l:dU b):Calls Tryz.prog 75 #[.agg #[f,g]] a λe h=>∃d,e=.returned (.tuple #[d,.int .i64 (bP b c)])/\cL h d (nP b c)/\Below a a h:=
 (Qs a f g b c m n l).mono λ_ _ ⟨d,i,j,_,k⟩=>⟨d,i,j,k⟩
def vI:List Stp:=[⟨0,0,0,0⟩,⟨1,0,0,0⟩,⟨2,0,0,0⟩,⟨3,0,0,0⟩,⟨4,0,1,0⟩,⟨4,1,2,0⟩,⟨4,2,0,0⟩,⟨4,3,0,0⟩,⟨5,0,1,2⟩,⟨5,1,2,0⟩,⟨5,2,0,1⟩,⟨5,3,0,1⟩]
def vJ:List Stp:=[⟨5,0,2,0⟩,⟨5,1,0,1⟩,⟨5,2,1,2⟩,⟨5,3,1,2⟩]
def vK:List Stp:=[⟨6,3,0,0⟩]
def FB:List Stp:=vI++vJ++vK
set_option maxRecDepth 100000
theorem zg:fQ b9 ca 0 []=nu/\cX b9 ca 0 []=vI:=⟨SI,SI⟩
theorem zh:fQ b9 ca 0 nu=fX/\cX b9 ca 0 nu=vJ:=⟨SI,SI⟩
theorem QI:cX b9 ca 0 fX=[]:=SI
theorem zi:fQ b9 ca 1 fX=js/\cX b9 ca 1 fX=vK:=⟨SI,SI⟩
theorem QJ:cX b9 ca 1 js=[]:=SI
theorem Fs:gG b9 ca 0 []=fX/\gH b9 ca 0 []=vI++vJ:=by
 have a:=oK (s:=0) tO (by rw[zg.2];simp[vI]);have b:=oK (s:=0) tP (by rw[zh.2];simp[vJ]);have c:=sV QI;rw[zg.1,zg.2] at a;rw[zh.1,zh.2] at b;rw[a.1,a.2,b.1,b.2,c.1,c.2,append_nil];exact⟨rfl,rfl⟩
theorem Qt:gG b9 ca 1 fX=js/\gH b9 ca 1 fX=vK:=by
 have a:=oK (s:=1) pQ (by rw[zi.2];simp[vK]);have b:=sV QJ;rw[zi.1,zi.2] at a;rw[a.1,a.2,b.1,b.2,append_nil];exact⟨rfl,rfl⟩
theorem QN:mx b9 ca=FB:=by
 rw[mx,i8,show cC [0,0,1]=2 from rfl];show[]++gH b9 ca 0 []++gH b9 ca 1 (gG b9 ca 0 [])=FB;rw[Fs.1,Fs.2,Qt.2];rfl
