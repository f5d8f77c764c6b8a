import Derived.Test.YtlfccloaoopadagGreatDoorG21
import Derived.Test.YtlfccloaoopadagGreatDoorG23
open Go.Proofs.Tryz
set_option maxRecDepth 100000
set_option maxHeartbeats 0
namespace Go.Proofs.YtlfccloaoopadagGreatDoor
open Go.ChangeShapes Go.WideShapes Go.ChangeAt Go.RowKit Go.Maps
variable{p:Prop}
theorem xd:Keyed prog 9:=string_keyed underlying9
abbrev tU(w:World)(b n:Nat)(D:DataW Unit):Prop:=w.ownsMap prog 9 (plainElem prog 3) b n D
def nZ(D:DataW Unit)(f:ByteArray->Nat):Prop:=IsMap D/\∀s:ByteArray,D.atKey (.string s.data.toList) (.lit (.int .i64 0))=.lit (.int .i64 (f s:Nat))
theorem I7:nZ (.map []) (λs=>gM (([]:List Prd)) s):=⟨isMap_empty,λ_=>rfl⟩
theorem I8{d:DataW Unit}{f h:ByteArray->Nat}{s b}(c:nZ d f)(g:d.atKey (.string s.data.toList) (.lit (.int .i64 0))=.lit (.int .i64 b))(p:f s<=1000000000000000)(i:∀a,h a=f a+if s.data.toList=a.data.toList then 1 else 0)(l:∀a,s.data.toList=a.data.toList->f a=f s):nZ (d.put (.string s.data.toList) (.lit (.int .i64 (wrap64 (b+1))))) h:=by
 have j:b=(f s:Int):=by
  rw[c.2 s] at g;simp at g;exact g.symm
 have m:wrap64 (b+1)=((f s+1:Nat):Int):=by rw[j];unfold wrap64;omega
 obtain⟨o,k⟩:=c.1;refine⟨⟨_,by rw[k];rfl⟩,λa=>?_⟩;by_cases e:s.data.toList=a.data.toList
 .rw[<-e,atKey_put_same c.1 TY,m,i,if_pos e,l a e]
 rw[atKey_put_other (by simpa using λn:a.data=s.data=>e (by rw[n])),c.2 a,i,if_neg e,Nat.add_zero]
theorem Jf{b:World}{d n}{c:DataW Unit}{f:ByteArray->Nat}(g:tU b d n c)(h:nZ c f)(s)(k:s.size<=9223372036854775807):(Instr.lookup 209 (.map (some d)) (.string s) false).run prog b=.ok (.int .i64 (f s:Nat)) b:=by
 obtain⟨j,i,a,_⟩:=g.lookup_int xd underlying209 underlying3 (qf _) (WideMaps.keyOf_string_mk (s:=s) underlying9 TZ);rw[h.2 s] at a;simp at a;rw[a];exact i
theorem I2(f b)(a:World)(c h n:Nat)(g:DataW Unit)(l:b.name.size<=9223372036854775807)(k:a.cell? c=some (.map (some h)))(m:c<a.heap.size)(j:tU a h n g)(i:nZ g (gM f)):Calls prog 160 #[fS b,.pointer (some ⟨c,0,none⟩)] a λe p=>e=.returned (.bool (t_ f b))/\Below a a p:=by
 rw[t_,fS];have d:Below a a (a.alloc (.cells #[.string b.name,b.arity,b.kind] 51)):=bH _ _;have r:=Jf (qd j d) i b.name l;have s:=(bF (o:=0) d m).trans k;generalize gM f b.name=q at*;clear j i k;go_enter func160,ntmps160;go_wp2_with fail;go_ret;refine⟨?_,d⟩;simp;omega
def e_(ps:List Prd):Int:=if ps.any ge then 5 else if iJ ps then 6 else if ps.any g7 then 3 else if ps.any iI then 4 else 0
def io(ps:List Prd):Nat->Bool
 |0=>ps.any ge
 |1=>iJ ps
 |2=>ps.any g7
 |_=>ps.any iI
def ny:Nat->Int
 |0=>5
 |1=>6
 |2=>3
 |_=>4
theorem n_{ps}(k:Fin 4)(a:∀c,c<k.1->io ps c=false)(b:io ps k.1=true):e_ ps=ny k.1:=by
 match k with
 |⟨0,_⟩=>rw[e_,if_pos (show ps.any ge=true from b)];rfl
 |⟨1,_⟩=>rw[e_,if_neg (by rw[show ps.any ge=false from a 0 (show 0<1 by decide)];simp),if_pos (show iJ ps=true from b)];rfl
 |⟨2,_⟩=>rw[e_,if_neg (by rw[show ps.any ge=false from a 0 (show 0<2 by decide)];simp),if_neg (by rw[show iJ ps=false from a 1 (show 1<2 by decide)];simp),if_pos (show ps.any g7=true from b)];rfl
 |⟨3,_⟩=>rw[e_,if_neg (by rw[show ps.any ge=false from a 0 (show 0<3 by decide)];simp),if_neg (by rw[show iJ ps=false from a 1 (show 1<3 by decide)];simp),if_neg (by rw[show ps.any g7=false from a 2 (show 2<3 by decide)];simp),if_pos (show ps.any iI=true from b)];rfl
theorem BT{a}(b:∀c,c<4->io a c=false):e_ a=0:=by
 rw[e_,if_neg (by rw[show a.any ge=false from b 0 TQ];simp),if_neg (by rw[show iJ a=false from b 1 TQ];simp),if_neg (by rw[show a.any g7=false from b 2 TQ];simp),if_neg (by rw[show a.any iI=false from b 3 TQ];simp)]
theorem T0(h:p:=by rw[<-hW0,<-hTe,nx];rfl):p:=h
theorem T2(h:p:=by rw[hb3.cell (p:=⟨wr,0,none⟩) (by simp)];simp[go_sem]):p:=h
theorem T6(h:p:=by rw[HR.out];rfl):p:=h
theorem ZA(h:p:=by
 go_ret
 exact⟨T6,hbW.trans ((hb2.trans ((cU (bH _ _) hb3).mono hb2.size)).mono hbW.size)⟩):p:=h
theorem Br(d:World)(Z b)(X:bR d Z b)(aD:b.length<=5)(O:dU b):Calls prog 117 #[Z] d λe t=>e=.returned (.int .i64 (e_ b))/\Below d d t:=by
 have aw:=@run_makeMap prog;have B:=hid_ X;have K:=hid_ O;obtain⟨E,F,rfl,aH,az⟩:=X;clear az O;go_enter func117,ntmps117;go_wp2_with fail;go_loopw [11] (λx wr=>∃f:Nat,f<=b.length/\x=.int .i64 f/\Below d d wr/\wr.cell? ⟨d.heap.size+1,0,none⟩=some (.map (some d.heap.size))/\d.heap.size+1<wr.heap.size/\∃v G,v<=f/\tU wr d.heap.size v G/\nZ G (gM (b.take f))) (λx _=>b.length-(intOf x).toNat)
 case atStart=>
  refine⟨0,Nat.zero_le _,rfl,((Below.refl _ _).alloc (Nat.le_refl _) _).alloc Q1 _,Re,Q1,0,_,Nat.le_refl _,(World.ownsMap_made _ _ _ _).alloc _,I7⟩
 obtain⟨f,av,rfl,z,H,Y,v,G,O,I,C⟩:=hrel;by_cases N:f<b.length
 .obtain⟨U,aB,ao,hv,ar,V⟩:=cN B N;obtain⟨rfl,rfl⟩:E=some ⟨U,aB,none⟩/\F=ao:=S2;obtain⟨aK,aL,aM⟩:=py.a d wr U _ _ z ar V;have aG:=K _ (List.getElem_mem N);have T:=wY N;have aE:(0:Int)<=(f:Int):=Q0;have aF:(f:Int)<(b.length:Int):=Q0;clear hv V;generalize b[f]=o at*;have W:keyOf prog 9 (.string o.name)=some (.string o.name.data.toList):=WideMaps.keyOf_string_mk underlying9 TZ;have ax:v<maxLen:=TZ;have J:=hid_ C;have ae:=hid_ T;clear C T
  go_wp2_with(first
   |(at_lookup;refine wpList_lookup_own_int _ rfl _ _ 209 rfl 9 3 .i64 xd underlying209 underlying3 (qf _) d v _ rfl (I.alloc _) _ _ rfl W ?_;intro aC aq aJ)
   |(at_mapUpdate;refine wpList_mapUpdate_own _ rfl _ _ _ 209 rfl 9 3 xd underlying209 _ d v _ rfl (I.alloc _) ax _ _ _ rfl rfl W _ [] (plainElem_int underlying3 (wrap64_wf _)) ?_;intro l ay L))
  have au:l.heap[d.heap.size+1]? =wr.heap[d.heap.size+1]? :=by
   have ap:=L.block (d.heap.size+1) RD (λe=>by simp at e);rw[ap];exact Below.heap_alloc _ _ _ Q0
  have aA:=L.size;simp only[World.size_alloc] at aA;refine⟨⟨f+1,Q0,Rv,(z.alloc z.size _).grown L (by have:=z.size;simp;omega) (λo w=>by cases w;exact Nat.le_refl _),?_,Q0,v+1,_,Q0,ay,?_⟩,S6⟩
  .unfold World.cell? at H⊢;rw[show l.heap[(⟨d.heap.size+1,0,none⟩:Addr).block]? =wr.heap[(⟨d.heap.size+1,0,none⟩:Addr).block]? from au];exact H
  refine I8 J aq (by have:=I5 (b.take f) o.name;rw[List.length_take] at this;omega) (λS=>?_) (λS hv=>?_)
  .rw[ae S];congr 1;by_cases e:o.name.data.toList=S.data.toList
   .rw[if_pos e,if_pos (pW.2 e)]
   rw[if_neg e,if_neg (λr=>e (pW.1 r))]
  unfold gM;congr 1;funext h;rw[Bool.eq_iff_iff,pW,pW,hv]
 obtain rfl:f=b.length:=Q0;rw[List.take_length] at C;have af:=hid_ I;have J:=hid_ C;clear I C aw;go_wp2_with fail;obtain⟨m,hTe⟩:=ex_ wr.heap.size;obtain⟨g,hW0⟩:=ex_ (wr.alloc (.cells #[.int .i64 5,.func (.func 158) #[] #[],.int .i64 6,.func (.func 160) #[] #[.pointer (some ⟨d.heap.size+1,0,none⟩)],.int .i64 3,.func (.func 161) #[] #[],.int .i64 4,.func (.func 162) #[] #[]] 210));have y:Below wr wr g:=S3;have aI:g.heap.size=m+1:=by rw[<-hW0,<-hTe];simp
 have ag:g.cell? m=some (.int .i64 5):=T0;have ah:g.cell? ⟨m,1,none⟩=some (.func (.func 158) #[] #[]):=T0;have ai:g.cell? ⟨m,2,none⟩=some (.int .i64 6):=T0;have aj:g.cell? ⟨m,3,none⟩=some (.func (.func 160) #[] #[.pointer (some ⟨d.heap.size+1,0,none⟩)]):=T0;have ak:g.cell? ⟨m,4,none⟩=some (.int .i64 3):=T0;have al:g.cell? ⟨m,5,none⟩=some (.func (.func 161) #[] #[]):=T0;have am:g.cell? ⟨m,6,none⟩=some (.int .i64 4):=T0;have an:g.cell? ⟨m,7,none⟩=some (.func (.func 162) #[] #[]):=T0;have hbW:=bt_ z y;have u:m<g.heap.size:=Q0
 have aa:Hid (∀h,Below g g h->∀c,Below h h c->Calls prog 163 #[.slice E b F,.func (.func 158) #[] #[]] c λe t=>e=.returned (.bool (io b 0))/\Below c c t):=λh n c q=>by
  have e:io b 0=b.any (ge):=rfl;rw[e];exact qS c _ b _ #[] (enters_of func158 TT rfl) _ (bR.a (hbW.trans ((n.trans (q.mono n.size)).mono hbW.size)) B.out) (λl o A w=>I0 o _ (K o w))
 have ab:Hid (∀h,Below g g h->∀c,Below h h c->Calls prog 163 #[.slice E b F,.func (.func 160) #[] #[.pointer (some ⟨d.heap.size+1,0,none⟩)]] c λe t=>e=.returned (.bool (io b 1))/\Below c c t):=λh n c q=>by
  have e:io b 1=b.any (t_ b):=(Jr b).symm;rw[e];exact qS c _ b _ #[.pointer (some ⟨d.heap.size+1,0,none⟩)] (enters_of func160 TT rfl) _ (bR.a (hbW.trans ((n.trans (q.mono n.size)).mono hbW.size)) B.out) (λl o A w=>I2 b o l (d.heap.size+1) d v G (K o w) ((((y.mono (Nat.le_refl _)).trans ((n.trans ((q.trans (A.mono q.size)).mono n.size)).mono y.size)).cell (p:=⟨d.heap.size+1,0,none⟩) Y).trans H) (by have:=y.size;have:=n.size;have:=q.size;have:=A.size;omega) (qd (qd af y) (n.trans ((q.trans (A.mono q.size)).mono n.size))) J.out)
 have ac:Hid (∀h,Below g g h->∀c,Below h h c->Calls prog 163 #[.slice E b F,.func (.func 161) #[] #[]] c λe t=>e=.returned (.bool (io b 2))/\Below c c t):=λh n c q=>by
  have e:io b 2=b.any (g7):=rfl;rw[e];exact qS c _ b _ #[] (enters_of func161 TT rfl) _ (bR.a (hbW.trans ((n.trans (q.mono n.size)).mono hbW.size)) B.out) (λl o A w=>I3 o _)
 have ad:Hid (∀h,Below g g h->∀c,Below h h c->Calls prog 163 #[.slice E b F,.func (.func 162) #[] #[]] c λe t=>e=.returned (.bool (io b 3))/\Below c c t):=λh n c q=>by
  have e:io b 3=b.any (iI):=rfl;rw[e];exact qS c _ b _ #[] (enters_of func162 TT rfl) _ (bR.a (hbW.trans ((n.trans (q.mono n.size)).mono hbW.size)) B.out) (λl o A w=>I4 o _)
 rw[hW0,hTe];clear hW0;go_loopw [28] (λx wr=>∃f:Nat,f<=4/\x=.int .i64 f/\(∀k,k<f->io b k=false)/\Below g g wr) (λx _=>4-(intOf x).toNat)
 case atStart=>exact⟨0,Nat.zero_le _,rfl,λk D=>absurd D Q0,Below.refl _ _⟩
 clear z H Y hTe y;obtain⟨f,av,rfl,s,hb2⟩:=hrel;obtain rfl|rfl|rfl|rfl|rfl:f=0\/f=1\/f=2\/f=3\/f=4:=Q0
 .have M:=trivial;have i:=aa wr hb2;have P:=(hb2.cell (p:=⟨m,0,none⟩) u).trans ag;have Q:=(hb2.cell (p:=⟨m,1,none⟩) u).trans ah;cases j:io b 0
  .rw[j] at i;go_wp2_with(first|(go_at_call 163;refine mo_ (i _ RK) λl hb3=>?_));exact⟨⟨1,Q0,Rv,λk D=>by rcases(show k<0\/k=0 by omega) with r|rfl;exact s k r;exact j,hb2.trans ((cU (bH _ _) hb3).mono hb2.size)⟩,by simp[intOf]⟩
  rw[j] at i;have HR:Hid (e_ b=5):=show e_ b=ny 0 from n_ ⟨0,TQ⟩ s j
  go_wp2_with(first|(go_at_call 163;refine mo_ (i _ RK) λl hb3=>?_;have R:l.cell? wr=some (.int .i64 5):=T2));exact ZA
 .have M:=trivial;have i:=ab wr hb2;have P:=(hb2.cell (p:=⟨m,2,none⟩) u).trans ai;have Q:=(hb2.cell (p:=⟨m,3,none⟩) u).trans aj;cases j:io b 1
  .rw[j] at i;go_wp2_with(first|(go_at_call 163;refine mo_ (i _ RK) λl hb3=>?_));exact⟨⟨2,Q0,Rv,λk D=>by rcases(show k<1\/k=1 by omega) with r|rfl;exact s k r;exact j,hb2.trans ((cU (bH _ _) hb3).mono hb2.size)⟩,by simp[intOf]⟩
  rw[j] at i;have HR:Hid (e_ b=6):=show e_ b=ny 1 from n_ ⟨1,TQ⟩ s j
  go_wp2_with(first|(go_at_call 163;refine mo_ (i _ RK) λl hb3=>?_;have R:l.cell? wr=some (.int .i64 6):=T2));exact ZA
 .have M:=trivial;have i:=ac wr hb2;have P:=(hb2.cell (p:=⟨m,4,none⟩) u).trans ak;have Q:=(hb2.cell (p:=⟨m,5,none⟩) u).trans al;cases j:io b 2
  .rw[j] at i;go_wp2_with(first|(go_at_call 163;refine mo_ (i _ RK) λl hb3=>?_));exact⟨⟨3,Q0,Rv,λk D=>by rcases(show k<2\/k=2 by omega) with r|rfl;exact s k r;exact j,hb2.trans ((cU (bH _ _) hb3).mono hb2.size)⟩,by simp[intOf]⟩
  rw[j] at i;have HR:Hid (e_ b=3):=show e_ b=ny 2 from n_ ⟨2,TQ⟩ s j
  go_wp2_with(first|(go_at_call 163;refine mo_ (i _ RK) λl hb3=>?_;have R:l.cell? wr=some (.int .i64 3):=T2));exact ZA
 .have M:=trivial;have i:=ad wr hb2;have P:=(hb2.cell (p:=⟨m,6,none⟩) u).trans am;have Q:=(hb2.cell (p:=⟨m,7,none⟩) u).trans an;cases j:io b 3
  .rw[j] at i;go_wp2_with(first|(go_at_call 163;refine mo_ (i _ RK) λl hb3=>?_));exact⟨⟨4,Q0,Rv,λk D=>by rcases(show k<3\/k=3 by omega) with r|rfl;exact s k r;exact j,hb2.trans ((cU (bH _ _) hb3).mono hb2.size)⟩,by simp[intOf]⟩
  rw[j] at i;have HR:Hid (e_ b=4):=show e_ b=ny 3 from n_ ⟨3,TQ⟩ s j
  go_wp2_with(first|(go_at_call 163;refine mo_ (i _ RK) λl hb3=>?_;have R:l.cell? wr=some (.int .i64 4):=T2));exact ZA
 have HR:=hid_ (BT s);go_wp2_with fail;go_ret;exact⟨T6,hbW.trans (hb2.mono hbW.size)⟩
