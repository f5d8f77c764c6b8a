import Derived.Test.YtlfccloaoopadagGreatDoorG45
import Derived.Test.YtlfccloaoopadagGreatDoorG48
open Go.Proofs.Tryz
set_option maxRecDepth 100000
set_option maxHeartbeats 0
open List (setIfInBounds_toArray set_cons_succ set_cons_zero)
open Or (inl)
namespace Go.Proofs.YtlfccloaoopadagGreatDoor
open Go.ChangeShapes Go.WideShapes Go.ChangeAt Go.RowKit
variable{p:Prop}
theorem Qk(b:List Prd)(c:List Rul)(n:Int):(fN b c n).length<=500/\(fg b c n).length<=500:=by
 unfold fN fg;by_cases a:eu b c n=0
 .have d:bP b c=0:=by
   unfold eu at a;by_cases f:bP b c=0
   .exact f
   rw[if_pos f] at a;exact a
  have g:=(iz d).preds;have h:=(iz d).rules;rw[if_pos a,if_pos a];unfold d7;rw[List.length_append,List.length_take,List.length_drop];omega
 rw[if_neg a,if_neg a];simp
def jA(w:World)(N:Nat)(n:Int):Prop:=w.heap[N]? =some (.cells #[n] 3 (0,0))
theorem jA.a{c:World}{b:Nat}{n:Int}(d:jA c b n):c.cell? b=some (.int .i64 n)/\c.frozen? b=false:=by
 unfold jA at d;simp[World.cell?,World.frozen?,d]
theorem jA.b{c:World}{a:Nat}{n:Int}(d:jA c a n):a<c.heap.size:=(Array.getElem?_eq_some_iff.1 d).1
theorem jA.c{w f:World}{a:Nat}{n:Int}(d:jA w a n)(g:Below w w f):jA f a n:=(g.block a d.b).trans d
theorem Nv(i:World)(f d:Nat)(s:List UInt8)(t:cu i f s)(w:s.length<=4096)(q:jA i d 0)(o:d<f):Calls prog 83 #[.pointer (some ⟨f,0,none⟩),.pointer (some ⟨d,0,none⟩)] i λe m=>au f d i m/\match ek s with
 |none=>e=ow
 |some k=>e=.returned (.tuple #[])/\cu m f k.2/\jA m d k.1:=by
 have g:=qE i f s t Q0
 cases p:ek s with
 |none=>
  rw[p] at g
  go_enter func83,ntmps83
  go_wp2_with fail
  refine g.mono ?_
  intro e n j
  obtain⟨rfl,h⟩:=j.b
  exact⟨rfl,au.a h o,rfl⟩
 |some k=>
  obtain⟨x,y⟩:=k
  rw[p] at g
  go_enter func83,ntmps83
  go_wp2_with fail
  refine g.mono ?_
  intro e n j
  obtain⟨z,rfl,rfl,h⟩:=j.a
  have l:jA n d 0:=(h.out.2.e Q0 q.b).trans q
  obtain⟨u,v⟩:=l.a
  have r:=bK l
  clear j g l
  go_wp2_with fail
  go_end0
  exact⟨(au.a h.out.2 o).c,rfl,fP h.out.1 Q0,heap_setCell_same n d 0 _ _ _ r.out⟩
theorem ND:∀a b,(callFunc 83 a).run prog b=.ok (.enter 83 a) b:=enters_of func83 QX rfl
theorem Nx(W:World)(a:Nat)(s:List UInt8)(y:s.length<=4096)(u:jA W a 0):Calls prog 16 #[.string (bN s),.func (.func 83) #[] #[.pointer (some ⟨a,0,none⟩)]] W λe c=>e=.returned (.bool (kn s).isSome)/\Below a W c/\(∀n,kn s=some n->jA c a n):=by
 have r:=sU W (bN s);have l:=u.b
 have w:cu (jZ W (bN s)) (W.heap.size+1) s:=by
  exact ZB
 have x:(jZ W (bN s)).heap[W.heap.size]? =some (.cells #[.bool false] 4 (0,0)):=(Below.block (bH (W.alloc (.cells #[.bool false] 4)) _) _ Q1).trans (heap_alloc_new W _)
 refine(yW W (bN s) 83 #[.pointer (some ⟨a,0,none⟩)] ND (λk c=>Below a W c/\W.heap.size<c.heap.size/\match ek s with
  |none=>k=none
  |some g=>k=some g.2/\jA c a g.1) ?_).mono ?_
 .refine(Nv (jZ W (bN s)) (W.heap.size+1) a s w y ((r.block a l).trans u) Q0).mono ?_;rintro e c ⟨t,f⟩;have q:=(t.rest W.heap.size l Q0 XI).trans x;have j:=(r.mono Q0).trans t.low;have o:=(Array.getElem?_eq_some_iff.1 q).1;cases i:ek s with
  |none=>
   rw[i] at f;exact⟨none,q,⟨j,o,rfl⟩,f⟩
  |some g=>
   rw[i] at f;exact⟨some g.2,q,⟨j,o,rfl,f.2.2⟩,f.1,f.2.1⟩
 rintro e c ⟨k,z,⟨j,o,d⟩,rfl,rfl⟩;refine⟨?_,j.setCell (p:=⟨W,0,none⟩) (Nat.le_of_lt l) _,?_⟩
 .congr 2;unfold kn;cases i:ek s with
  |none=>rw[i] at d;subst d;rfl
  |some g=>
   obtain⟨n,v⟩:=g;rw[i] at d;obtain⟨rfl,_⟩:=d;cases v with
   |nil=>rfl
   |cons A v=>rfl
 intro n h;unfold kn at h;split at h
 .rename_i m hm;rw[hm] at d;rw[Option.some.injEq] at h;subst h;have:jA z a m:=d.2;unfold jA at this⊢;rw[h_ Q0];exact this
 cases h
structure bj (w:World) (D:Nat) (x:dQ) (pv rv:Value) (P:List Prd) (R:List Rul) (X:World) (B:Nat) (qv sv:Value):Prop where
 d:al X D x pv rv
 q:cR X B (.slice none 0 0) (.slice none 0 0)
 hp:bR X qv P
 hr:ck X sv R
 below:Below w w X
 b:w.heap.size<B
 lt:D<w.heap.size
theorem bj.a{w:World}{z:Nat}{G:dQ}{E F:Value}{j:List Prd}{k:List Rul}{m:World}{i:Nat}{r t:Option Addr}{s v:Nat}{n:Int}(g:bj w z G E F j k m i (.slice r j s) (.slice t k v))(H:jA m w n){h:World}(x:(m.setCell i (.slice r j s)).setCell ⟨i,1,none⟩ (.slice t k v)=h):al h z G E F/\jA h w n/\cR h i (.slice r j s) (.slice t k v)/\bR h (.slice r j s) j/\ck h (.slice t k v) k/\Below w w h:=by
 have J:=g.b;have K:=g.lt;have o:=(mX (k:=0) (u:=.slice r j s) g.q).a (mX (k:=1) (u:=.slice t k v) (g.q.c _))
 have B:∀{y:Nat} {A:World},y<=i->Below y A m->Below y A h:=λD I=>by
  rw[<-x];exact(I.setCell (p:=⟨i,0,none⟩) D _).setCell (p:=⟨i,1,none⟩) D _
 have e:∀l,l≠i->h.heap[l]? =m.heap[l]? :=λl C=>by rw[<-x,h_ (Ne.symm C),h_ (Ne.symm C)]
 rw[x] at o;refine⟨⟨(e _ Q0).trans g.d.box,qI o g.d.hp,qK o g.d.hr,g.d.cap,g.d.ok,yz g.d.low (B Q0 (Below.refl _ _))⟩,(e _ Q0).trans H,?_,qI o g.hp,qK o g.hr,B Q0 g.below⟩;rw[<-x];exact(g.q.c _).f _
theorem Nw{m c:World}{b:Nat}{f:dQ}{E G i g:Option Addr}{F H j h:Nat}{l:List Prd}{d:List Rul}{n:Int}{t:Nat}(v:al c b f (.slice E f.1.length F) (.slice G f.2.length H)/\jA c m n/\cR c t (.slice i l j) (.slice g d h)/\bR c (.slice i l j) l/\ck c (.slice g d h) d/\Below m m c)(B:b<=m.heap.size)(A:kM (.slice g d h))(z:l=f.1)(C:bP f.1 d=0):pg m b ((f.1,d),[111,107]) (.returned (.tuple #[.string (bN [111,107]),.int .i64 0])) ((c.setCell b (.slice i l j)).setCell ⟨b,1,none⟩ (.slice g d h)):=by
 subst z;obtain⟨o,_,_,w,x,y⟩:=v;have s:=(mX (k:=0) (u:=.slice i f.1.length j) o.box).a (mX (k:=1) (u:=.slice g d h) (heap_setCell_same c b 0 _ _ _ o.box));have r:∀{q:World},Below b q c->Below b q ((c.setCell b (.slice i f.1.length j)).setCell ⟨b,1,none⟩ (.slice g d h)):=λD=>(D.setCell (p:=⟨b,0,none⟩) (Nat.le_refl _) _).setCell (p:=⟨b,1,none⟩) (Nat.le_refl _) _;exact⟨[111,107],0,i,j,g,h,rfl,⟨Q0,Q1,rfl⟩,⟨heap_setCell_same _ b 1 _ _ _ (heap_setCell_same c b 0 _ _ _ o.box),qI s w,qK s x,A,C,yz o.low (r (Below.refl _ _))⟩,r (y.mono B)⟩
theorem X_(h:p:=by simp[results,results33,go_sem,bN]):p:=h
theorem YE(h:p:=by (intro w hSw;have q0:=al.a hSw.1;obtain⟨q0,q1,_,_⟩:=q0;have q2:=jA.a hSw.2;obtain⟨q2,_⟩:=q2;go_simp;try with_reducible rfl)):p:=h
theorem Nh(w:World)(C:Nat)(f:dQ)(L N:Option Addr)(M O:Nat)(s:List UInt8)(V:al w C f (.slice L f.1.length M) (.slice N f.2.length O))(aN:s.length<=4096):Calls prog 33 #[.pointer (some ⟨C,0,none⟩),.string (bN s)] w (pg w C (jT f s)):=by
 have v:=bK V;have az:=bH w (.cells #[.int .i64 0] 3);have am:=Nx (w.alloc (.cells #[.int .i64 0] 3)) w s aN (heap_alloc_new w _);have ak:=bK az;have aL:∀(aw:Fn) (first av:Array Value) (w:World),(Instr.makeFunc aw first av).run prog w=.ok (.func aw first av) w:=λ_ _ _ _=>rfl;generalize bN s=aF at*;clear V az;go_enter func33,ntmps33;go_wp2_with fail;refine am.mono ?_;rintro e p ⟨rfl,aA,aj⟩;have F:=hid_ (ak.out.trans aA);clear am aA ak;cases K:kn s with
 |none=>
  have H:Hid (jT f s=(f,eY 1)):=by show _=_;unfold jT;rw[K]
  clear aj K;go_wp2_with fail;refine bodyPost_ret (v:=.tuple #[.string (bN []),.int .i64 1]) X_ rfl ?_;rw[H.out];exact vb (E:=1) v F QY QY
 |some g=>
  have S:=bK (aj g K);have aC:=EP K;have H:Hid (jT f s=if eu f.1 f.2 g=0 then((f.1,d7 f.2 g.toNat),[111,107]) else(f,eY (eu f.1 f.2 g))):=by show _=_;unfold jT;rw[K]
  have P:=bK (v.out.b F.out);have aO:=bK aC
  have ah:Hid (∀t,al t C f (.slice L f.1.length M) (.slice N f.2.length O)->Calls prog 84 #[.agg #[.slice L f.1.length M,.slice N f.2.length O],g] t λe ae=>∃n o k l,e=.returned (.tuple #[.agg #[.slice n (fN f.1 f.2 g).length o,.slice k (fg f.1 f.2 g).length l],.int .i64 (eu f.1 f.2 g)])/\bR ae (.slice n (fN f.1 f.2 g).length o) (fN f.1 f.2 g)/\ck ae (.slice k (fg f.1 f.2 g).length l) (fg f.1 f.2 g)/\kM (.slice k (fg f.1 f.2 g).length l)/\Below t t ae):=λt ad=>(L_ t _ _ f.1 f.2 g ⟨Q0,Q0⟩ ad.hp ad.hr ad.d ad.cap).mono λe ae ⟨Z,he,aD,h⟩=>by
   have aB:=Qk f.1 f.2 g;obtain⟨n,o,k,l,rfl,aJ,aK⟩:=Mn aD aB.1 aB.2;refine⟨n,o,k,l,he,aJ,aK,?_,h⟩;obtain⟨_,_,_,_,aU,e,_,aM,_⟩:=aD;have e:=congrArg (λZ=>match Z with|Value.agg aG=>aG|_=>#[]) e;simp at e;obtain⟨⟨rfl,rfl⟩,rfl,rfl⟩:=e;exact rV aM
  have ag:Hid ((eu f.1 f.2 g=0->fN f.1 f.2 g=f.1/\fg f.1 f.2 g=d7 f.2 g.toNat)):=λV=>by unfold fN fg;rw[if_pos V,if_pos V];exact⟨rfl,rfl⟩
  generalize fN f.1 f.2 g=U at*;generalize fg f.1 f.2 g=I at*;clear aj K aC aL;go_wp2_with fail;refine wp_region_noPanic ?_;refine wp_region_held_drew (S:=λt=>al t C f (.slice L f.1.length M) (.slice N f.2.length O)/\jA t w.heap.size g) QX ⟨P.out.b (Below.refl _ _).drew,S.out⟩ (λJ=>?_);refine tk_ 0 ?_ rfl ?_ ?_;rotate_left
  .exact YE
  simp only[Act.put];refine tk_ 1 ?_ rfl ?_ ?_;rotate_left
  .exact YE
  simp only[Act.put];refine tk_ 2 ?_ rfl ?_ ?_;rotate_left
  .exact YE
  simp only[Act.put];refine tk_ 3 ?_ rfl ?_ ?_;rotate_left
  .exact YE
  simp only[Act.put];refine tk_ 4 ?_ rfl ?_ ?_;rotate_left
  .exact YE
  simp only[Act.put];refine wpAnyH_ready (rs:=[5,9]) QX Q1 ?_;refine AllReadyH.cons rfl (λj i=>?A) ?B
  case' A=>
   have D:=hid_ F.out.drew;go_simp;refine(ah _ (P.out.b (Below.refl _ _).drew)).mono ?_;rintro e r ⟨n,o,k,l,rfl,X,Y,W,h⟩;have u:=bK (al.b (P.out.b (Below.refl _ _).drew) h);have y:=bK (jA.c (w:=p.drew) S h);have R:=bK X;have T:=bK Y;have an:=bK W;have G:=bK (Below.trans D (h.mono D.out.size));clear h X Y W;refine i.out _ _ ⟨u.out,y.out⟩ (λJ=>?_);clear i j;try simp only[sq_]
   refine tk_ 6 ?_ rfl ?_ ?_;rotate_left
   .exact YE
   simp only[Act.put];refine tk_ 7 ?_ rfl ?_ ?_;rotate_left
   .exact YE
   simp only[Act.put];refine tk_ 8 ?_ rfl ?_ ?_;rotate_left
   .exact YE
   simp only[Act.put];refine rd_ 9 rfl λj i=>?_;go_simp;have h:=bH r (.cells #[.slice none 0 0,.slice none 0 0] 30);have Q:Hid (bj w C f (.slice L f.1.length M) (.slice N f.2.length O) U I (r.alloc (.cells #[.slice none 0 0,.slice none 0 0] 30)) r (.slice n U o) (.slice k I l)):=⟨u.out.b h,heap_alloc_new r _,bR.a h R.out,ck.a h T.out,G.out.trans (h.mono G.out.size),y.out.b,v.out.c⟩;have z:=bK (y.out.c h);have af:=bK Q.out.d;clear h u y R T G D;refine i.out _ _ ⟨af.out,z.out⟩ (λJ=>?_);clear i j;try simp only[sq_]
   generalize r.alloc (.cells #[.slice none 0 0,.slice none 0 0] 30)=au at*;generalize r.heap.size=B at*
  case' B=>
   refine AllReadyH.cons rfl (λj i=>?_) AllReadyH.nil;go_simp;have ac:=bH p.drew (.cells #[.slice none 0 0,.slice none 0 0] 30);have aa:=bK ((P.out.b (Below.refl _ _).drew).b ac);have z:=bK (jA.c (w:=p.drew) S ac);have aq:Hid (cR (p.drew.alloc (.cells #[.slice none 0 0,.slice none 0 0] 30)) p (.slice none 0 0) (.slice none 0 0)):=heap_alloc_new p.drew _;have D:=hid_ (F.out.drew.trans (ac.mono F.out.drew.size));have ar:=bK S.out.b;clear ac;refine i.out _ _ ⟨aa.out,z.out⟩ (λJ=>?_);clear i j;try simp only[sq_]
   refine rd_ 5 rfl λj i=>?_;go_simp;refine(ah _ aa.out).mono ?_;rintro e r ⟨n,o,k,l,rfl,X,Y,W,h⟩;have u:=bK (al.b aa h);have y:=bK (jA.c (w:=p.drew.alloc (.cells #[.slice none 0 0,.slice none 0 0] 30)) z h);have R:=bK X;have T:=bK Y;have an:=bK W;have G:=bK (Below.trans D (h.mono D.out.size));have ap:=bK (aq.out.b h);clear h X Y W;refine i.out _ _ ⟨u.out,y.out⟩ (λJ=>?_);clear i j;try simp only[sq_]
   refine tk_ 6 ?_ rfl ?_ ?_;rotate_left
   .exact YE
   simp only[Act.put];refine tk_ 7 ?_ rfl ?_ ?_;rotate_left
   .exact YE
   simp only[Act.put];refine tk_ 8 ?_ rfl ?_ ?_;rotate_left
   .exact YE
   simp only[Act.put];have Q:Hid (bj w C f (.slice L f.1.length M) (.slice N f.2.length O) U I r p (.slice n U o) (.slice k I l)):=⟨u.out,ap.out,R.out,T.out,G.out,ar.out,v.out.c⟩;clear z;have z:=bK y.out;have af:=bK u.out;clear aa u y aq ap R T G D ar;generalize p.heap.size=B at*;generalize r=au at*
  all_goals
   clear F P S ah;refine rd_ 10 rfl λj i=>?_;obtain⟨aH,aI,ax,ay⟩:=Q.out.q.a;go_simp;obtain⟨aP,ai⟩:=ex_ ((au.setCell B (.slice n U o)).setCell ⟨B,1,none⟩ (.slice k I l));have x:=bK (Q.out.a z ai);rw[ai];clear ai aH aI ax ay;refine i.out _ _ ⟨x.out.1,x.out.2.1⟩ (λJ=>?_);clear i j;try simp only[sq_]
   refine rd_ 11 rfl λj i=>?_;go_simp;refine i.out _ _ ⟨x.out.1,x.out.2.1⟩ (λJ=>?_);clear i j;try simp only[sq_]
   refine wpAnyH_done QX ?_ _;refine NoPanic.normal ?_;clear Q z af;rcases yX v.out.ok g with he|he
   .have ab:=ag he;have m:=H.out;rw[if_pos he,<-ab.2] at m;have ao:=bK ab.1;have m:=bK m;rw[he];obtain⟨aQ,aR,_,_⟩:=x.out.2.2.1.a;obtain⟨aS,aT,ax,ay⟩:=x.out.1.a;have aE:=bK (Nw x (Nat.le_of_lt v.out.c) an ao (show bP f.1 I=0 by rw[ab.2];exact ym v.out.ok _));clear he ab ag H ao;go_wp2_with fail;refine bodyPost_ret (v:=.tuple #[.string (bN [111,107]),.int .i64 0]) X_ rfl ?_;rw[m.out];exact aE.out
   have m:=H.out;rw[he,if_neg QY] at m;have m:=bK m;rw[he];clear ag H he;go_wp2_with fail;refine bodyPost_ret (v:=.tuple #[.string (bN []),.int .i64 7]) X_ rfl ?_;rw[m.out];exact vb (E:=7) v x.out.2.2.2.2.2 QY QY
theorem MB(d:World)(h r f t:Nat)(s:List UInt8)(g:dQ)(A L:Option Addr)(B M:Nat)(F:cu d h s)(H:s.length<=4096)(w:al d t g (.slice A g.1.length B) (.slice L g.2.length M))(S:d.cell? r=some (.pointer (some ⟨t,0,none⟩)))(G:dT d f (.int .i64 0) (.slice none 0 0))(v:f<h):Calls prog 78 #[.pointer (some ⟨h,0,none⟩),.pointer (some ⟨r,0,none⟩),.pointer (some ⟨f,0,none⟩)] d λe o=>au h f d o/\match eH g.1 s with
 |none=>e=ow
 |some k=>e=.returned (.tuple #[])/\cu o h k.2/\∃l z m,dT o f k.1.pred (.slice l z m)/\dY d o (.slice l z m) k.1.args:=by
 have i:=uV d h s F H (.slice A g.1.length B) g.1 w.hp
 obtain⟨J,K,_,_⟩:=w.a
 cases x:eH g.1 s with
 |none=>
  rw[x] at i
  go_enter func78,ntmps78
  go_wp2_with fail
  refine i.mono ?_
  intro e C n
  obtain⟨rfl,j⟩:=n.b
  exact⟨rfl,au.a j v,rfl⟩
 |some k=>
  obtain⟨E,T⟩:=k
  rw[x] at i
  go_enter func78,ntmps78
  go_wp2_with fail
  refine i.mono ?_
  intro e C n
  obtain⟨U,rfl,I,j⟩:=n.a
  obtain⟨N,rfl,p⟩:=I
  obtain⟨l,m,rfl⟩:=gk p.2
  have q:=G.c j.out.2 Q0
  obtain⟨O,P,Q,R⟩:=q.a
  have u:=bK q
  have D:=bK p
  clear n i q J K p
  go_wp2_with fail
  go_end0
  have y:=heap_setCell_same C f 0 _ _ E.pred u.out
  exact⟨((au.a j.out.2 v).c).c,rfl,fP (fP j.out.1 Q0) Q0,l,_,m,heap_setCell_same _ f 1 _ _ _ y,D.out.a ((fh.a u QY).b (fh.a y QY))⟩
theorem NA:∀a b,(callFunc 78 a).run prog b=.ok (.enter 78 a) b:=enters_of func78 QX rfl
theorem MC(W:World)(o f x:Nat)(s:List UInt8)(i:dQ)(E G:Option Addr)(F H:Nat)(Q:s.length<=4096)(N:al W x i (.slice E i.1.length F) (.slice G i.2.length H))(L:W.cell? o=some (.pointer (some ⟨x,0,none⟩)))(M:o<W.heap.size)(D:dT W f (.int .i64 0) (.slice none 0 0)):Calls prog 16 #[.string (bN s),.func (.func 78) #[] #[.pointer (some ⟨o,0,none⟩),.pointer (some ⟨f,0,none⟩)]] W λe d=>e=.returned (.bool (f5 i.1 s).isSome)/\Below f W d/\(∀u,f5 i.1 s=some u->∃g n h,dT d f u.pred (.slice g n h)/\cr d (.slice g n h) u.args):=by
 have q:=sU W (bN s);have B:=D.b
 have O:cu (jZ W (bN s)) (W.heap.size+1) s:=by
  exact ZB
 have P:(jZ W (bN s)).heap[W.heap.size]? =some (.cells #[.bool false] 4 (0,0)):=(Below.block (bH (W.alloc (.cells #[.bool false] 4)) _) _ Q1).trans (heap_alloc_new W _)
 refine(yW W (bN s) 78 #[.pointer (some ⟨o,0,none⟩),.pointer (some ⟨f,0,none⟩)] NA (λy d=>Below f W d/\d.heap[W.heap.size]? =some (.cells #[.bool false] 4 (0,0))/\match eH i.1 s with
  |none=>y=none
  |some j=>y=some j.2/\∃g n h,dT d f j.1.pred (.slice g n h)/\dY W d (.slice g n h) j.1.args) ?_).mono ?_
 .refine(MB (jZ W (bN s)) (W.heap.size+1) o f x s i E G F H O Q (N.b q) ((bF q M).trans L) ((q.block f B).trans D) Q0).mono ?_;rintro e d ⟨C,w⟩;have l:=(C.rest W.heap.size B Q0 XI).trans P;have v:=(q.mono Q0).trans C.low;cases t:eH i.1 s with
  |none=>
   rw[t] at w;exact⟨none,l,⟨v,l,rfl⟩,w⟩
  |some j=>
   rw[t] at w;obtain⟨J,K,g,n,h,z,A⟩:=w;exact⟨some j.2,l,⟨v,l,rfl,g,n,h,z,A.b q.size⟩,J,K⟩
 rintro e d ⟨y,S,⟨v,l,k⟩,rfl,rfl⟩;refine⟨?_,v.setCell (p:=⟨W,0,none⟩) (Nat.le_of_lt B) _,?_⟩
 .congr 2;unfold f5;cases t:eH i.1 s with
  |none=>rw[t] at k;subst k;rfl
  |some j=>
   obtain⟨n,I⟩:=j;rw[t] at k;obtain⟨rfl,_⟩:=k;cases I with
   |nil=>rfl
   |cons R I=>rfl
 intro u r;unfold f5 at r;split at r
 .rename_i m hm;rw[hm] at k;rw[Option.some.injEq] at r;subst r;obtain⟨_,g,n,h,z,A⟩:=k;exact⟨g,n,h,z.e Q0,(A.a (fh.a l QY)).c⟩
 cases r
theorem NN{a:dQ}{b:Atm}(h:bP a.1 a.2=0)(g:cf a.1 b=0):iV a.1 a.2=dg a.1 a.2/\e9 a.1 a.2 (dg a.1 a.2) b=0/\gJ a.1 a.2 (dg a.1 a.2) b=dJ (dg a.1 a.2) b/\bS a.1 a.2 (dJ (dg a.1 a.2) b)=0/\(dJ (dg a.1 a.2) b).length<=125/\∀f∈dJ (dg a.1 a.2) b,aF a.1 f:=by
 have c:=oA h (cC (bM a.1 a.2))
 have e:e9 a.1 a.2 (dg a.1 a.2) b=0:=by
  unfold e9 dg;rw[if_neg (by rw[kF h];simp),g]
 have d:bW a.1 (dJ (dg a.1 a.2) b)=0:=pY (eR c.1).1 (eR c.1).2.1 (List.Pairwise.filter _ (cG c.1).sorted) λf i=>kA c.1 f (List.mem_filter.1 i).1;refine⟨by unfold iV;rw[if_neg TN],e,by unfold gJ;rw[if_neg Sj],by unfold bS;rw[if_neg TN,d],mB d,yR h d⟩
theorem YI(h:p:=by (intro w hSw;have q0:=al.a hSw.1;obtain⟨q0,q1,_,_⟩:=q0;have q2:=hSw.2.1;have q3:=dT.a hSw.2.2;obtain⟨q3,q4,_,_⟩:=q3;go_simp;try with_reducible rfl)):p:=h
theorem Nf(w:World)(i:Nat)(c:dQ)(aa ac:Option Addr)(ab ad:Nat)(s:List UInt8)(S:al w i c (.slice aa c.1.length ab) (.slice ac c.2.length ad))(aN:s.length<=4096):Calls prog 32 #[.pointer (some ⟨i,0,none⟩),.string (bN s)] w (pg w i (c,gT c s)):=by
 have f:=bK S;obtain⟨y,hW2⟩:=ex_ ((w.alloc (.cells #[.pointer (some ⟨i,0,none⟩)] 36)).alloc (.cells #[.int .i64 0,.slice none 0 0] 55));have V:Below w w y:=WO;have aO:y.heap.size=w.heap.size+2:=by rw[<-hW2];simp
 have T:y.cell? w=some (.pointer (some ⟨i,0,none⟩)):=Vz
 have au:dT y (w.heap.size+1) (.int .i64 0) (.slice none 0 0):=by
  have:=heap_alloc_new (w.alloc (.cells #[.pointer (some ⟨i,0,none⟩)] 36)) (.cells #[.int .i64 0,.slice none 0 0] 55);rw[World.size_alloc,hW2] at this;exact this
 have ah:=MC y w (w.heap.size+1) i s c aa ac ab ad aN (S.b V) T Q0 au;have ag:=bK V;have ai:=bK T;have aL:∀(ar:Fn) (first ao:Array Value) (w:World),(Instr.makeFunc ar first ao).run prog w=.ok (.func ar first ao) w:=λ_ _ _ _=>rfl;have I:=hid_ λg (aK:f5 c.1 s=some g)=>DT (λaR aM=>((iz f.out.ok).arity aR aM).1) aK;generalize bN s=aG at*;clear S V aO T au;go_enter func32,ntmps32;go_wp2_with fail;clear hW2;refine ah.mono ?_;rintro e aT ⟨rfl,W,U⟩;have t:=hid_ (ag.out.trans (W.mono Q0));have M:=hid_ ((W.cell (p:=⟨w,0,none⟩) (Nat.lt_succ_self _)).trans ai.out);clear ah W ag ai;cases q:f5 c.1 s with
 |none=>
  have x:Hid (gT c s=eY 1):=by show _=_;unfold gT;rw[q]
  clear U q I;go_wp2_with fail;refine bodyPost_ret (v:=.tuple #[.string (bN []),.int .i64 1]) (by simp[results,results32,go_sem,bN]) rfl ?_;rw[x.out];exact vb (E:=1) f t QY QY
 |some g=>
  obtain⟨aH,aJ,aI,ay,Z⟩:=U g q;have B:=NN f.out.ok (I g q);have x:Hid (gT c s=jy c.1 (dJ (dg c.1 c.2) g)):=by show _=_;unfold gT;rw[q]
  obtain rfl:aJ=g.args.length:=by
   obtain⟨_,_,e,_⟩:=id Z;exact(Value.slice.inj e).2.1
  have n:=bK (f.out.b t.out);have R:=bK ay;have am:=bK Z;obtain⟨q0,q1,_,_⟩:=n.out.a;have q2:=M.out;have aD:=bK B.1;have aj:=bK B.2.1;have ak:=bK B.2.2.1;have l:=bK B.2.2.2;clear U q I ay Z B aL;go_wp2_with fail;refine(AR aT _ _ c.1 c.2 n.out.hp n.out.hr n.out.d).mono ?_;rintro e ae ⟨aS,rfl,X,r⟩;rw[aD.out] at X;rw[f.out.ok];have J:=bK (t.out.trans (r.mono t.out.size));have o:=bK (n.out.b r);have D:=bK (R.out.d r);have an:=bK (cr.a r am.out);have af:=bK X;have N:=hid_ ((bF r (by have:=R.out.b;omega)).trans M.out);clear r X q0 q1 q2 n R am M t;go_wp2_with fail;refine wp_region_noPanic ?_;refine wp_region_held_drew (S:=λC=>al C i c (.slice aa c.1.length ab) (.slice ac c.2.length ad)/\C.cell? w=some (.pointer (some ⟨i,0,none⟩))/\dT C (w.heap.size+1) g.pred (.slice aH g.args aI)) QX ⟨o.out.b (Below.refl _ _).drew,N.out,D.out⟩ (λG=>?_);refine tk_ 0 ?_ rfl ?_ ?_;rotate_left
  .exact YI
  simp only[Act.put];refine tk_ 1 ?_ rfl ?_ ?_;rotate_left
  .exact YI
  simp only[Act.put];refine tk_ 2 ?_ rfl ?_ ?_;rotate_left
  .exact YI
  simp only[Act.put];refine tk_ 3 ?_ rfl ?_ ?_;rotate_left
  .exact YI
  simp only[Act.put];refine tk_ 4 ?_ rfl ?_ ?_;rotate_left
  .exact YI
  simp only[Act.put];refine tk_ 5 ?_ rfl ?_ ?_;rotate_left
  .exact YI
  simp only[Act.put];refine rd_ 6 rfl λm h=>?_;go_simp;refine(FK ae.drew _ _ aS _ c.1 c.2 _ g (o.out.b (Below.refl _ _).drew).hp (o.out.b (Below.refl _ _).drew).hr (bO.a (Below.refl _ _).drew af.out) (cr.a (Below.refl _ _).drew an.out) o.out.d).mono ?_;rintro e az ⟨aY,rfl,Y,av⟩;have z:Below ae ae az:=((Below.refl _ _).drew).trans av;rw[ak.out] at Y;have H:=bK Y;have k:=bK (o.out.b z);have u:=hid_ ((bF z (by have:=D.out.b;omega)).trans N.out);have F:=bK (D.out.d z);have K:=bK (J.out.trans (z.mono J.out.size));clear Y av z;refine h.out _ _ ⟨k.out,u.out,F.out⟩ (λG=>?_);clear h m;try simp only[sq_]
  refine rd_ 7 rfl λm h=>?_;go_simp;refine h.out _ _ ⟨k.out,u.out,F.out⟩ (λG=>?_);clear h m;try simp only[sq_]
  refine tk_ 8 ?_ rfl ?_ ?_;rotate_left
  .exact YI
  simp only[Act.put];refine tk_ 9 ?_ rfl ?_ ?_;rotate_left
  .exact YI
  simp only[Act.put];refine rd_ 10 rfl λm h=>?_;go_simp;refine h.out _ _ ⟨k.out,u.out,F.out⟩ (λG=>?_);clear h m;try simp only[sq_]
  refine rd_ 11 rfl λm h=>?_;go_simp;refine h.out _ _ ⟨k.out,u.out,F.out⟩ (λG=>?_);clear h m;try simp only[sq_]
  refine wpAnyH_done QX ?_ _;refine NoPanic.normal ?_;rw[aj.out];clear o D an af N J;obtain⟨aU,aV,rfl,_⟩:=id H.out;by_cases A:(dJ (dg c.1 c.2) g).length=0
  .have ap:=List.eq_nil_of_length_eq_zero A;have aC:Hid (gT c s=[110,111,110,101]):=by show _=_;rw[x.out,ap];rfl
   rw[A];clear A ap x aj ak l H;go_wp2_with fail;refine bodyPost_ret (v:=.tuple #[.string (bN [110,111,110,101]),.int .i64 0]) (by simp[results,results32,go_sem,bN]) rfl ?_;rw[aC.out];exact qz f K Q1
  generalize dJ (dg c.1 c.2) g=j at*;have aX:((j.length:Int)==0)=false:=Tf;have aE:Hid (j≠[]):=by rintro rfl;exact A rfl
  have aW:=NL f.out.ok l.out.2.2 l.out.2.1;have O:=Nn az _ _ _ c.1 c.2 j k.out.hp k.out.hr H k.out.d;have aq:mT c.1 c.2 j=bN (jf c.1 j):=by unfold mT;rw[if_pos l.out.1]
  rw[aq,l.out.1] at O;obtain⟨q0,q1,_,_⟩:=k.out.a;have q2:=u.out;clear A aq;go_wp2_with fail;refine mo_ O λaA aw=>?_;have L:=bK (K.out.trans (aw.mono K.out.size));have Q:=P_ (bN (jf c.1 j)) ⟨#[46,10]⟩ Tp aA;have P:=Px (bN (Lib.trimSuffix (jf c.1 j) [46,10])) ⟨#[46,10]⟩ ⟨#[59,32]⟩ (by rw[du];have:=Qb (jf c.1 j) [46,10];omega) QY QY aA (f.out.e.a L.out);have aF:=bK (NK aE λC aQ=>NH (qJ f.out.ok).names (l.out.2.2 C aQ));rw[de,show bG (⟨#[46,10]⟩:ByteArray)=[46,10] from rfl] at Q;rw[de,show bG (⟨#[46,10]⟩:ByteArray)=[46,10] from rfl,show bG (⟨#[59,32]⟩:ByteArray)=[59,32] from rfl,aF.out] at P;clear q0 q1 q2 aw O;go_wp2_with fail;refine mo_ Q λaZ aP=>?_;obtain rfl:=aP.symm;clear Q;go_wp2_with fail;refine mo_ P λa0 ax=>?_;have aB:=bK (L.out.trans (ax.mono L.out.size));clear P ax;go_wp2_with fail;refine bodyPost_ret (v:=.tuple #[.string (bN (jy c.1 j)),.int .i64 0]) (by simp[results,results32,go_sem]) rfl ?_;rw[x.out];exact qz f aB (Fm f.out.ok l.out.2.2 l.out.2.1)
theorem kT{s l:List UInt8}{a:ByteArray}(b:bG a=s):(a.toList==l)=decide (s=l):=by
 rw[ByteArray.toList_eq,<-b];by_cases e:bG a=l
 .rw[decide_eq_true e,<-e];exact beq_self_eq_true _
 rw[decide_eq_false e,beq_eq_false_iff_ne];exact e
theorem Yd(h:p:=by simp[results,results10,go_sem]):p:=h
theorem Y0(h:p:=by
 rintro e w1 ⟨T,E,qa,qc,sa,sc,rfl,h1,h2,h3⟩
 have H1:=bK (And.intro h1 (And.intro h2 h3))
 clear h1 h2 h3 q0 q1
 go_wp2_with fail
 refine bodyPost_ret (v:=.tuple #[.string (bN T),E]) Yd rfl ?_
 rw[HA.out]
 exact⟨T,E,qa,qc,sa,sc,rfl,H1.out.1,H1.out.2.1,H1.out.2.2⟩):p:=h
theorem My(i:World)(y:Nat)(b:dQ)(G I:Option Addr)(H J:Nat)(s:List UInt8)(F:al i y b (.slice G b.1.length H) (.slice I b.2.length J))(aa:s.length<=4096):Calls prog 10 #[.pointer (some ⟨y,0,none⟩),.string (bN s)] i (pg i y (cq b s)):=by
 have c:=bK F;clear F;obtain⟨N,O⟩:=ex_ (bN s);have f:bG N=s:=by rw[<-O];exact de s
 rw[O];clear O;by_cases g:s=[109,111,100,101,108]
 .have HA:Hid (cq b s=(b,Lib.decDigits (dg b.1 b.2).length)):=by
   show _=_;unfold cq;rw[if_pos g]
  have n:=kT (l:=[109,111,100,101,108]) f;rw[decide_eq_true g] at n;obtain⟨q0,q1,_,_⟩:=c.out.a;clear f g;go_enter func10,ntmps10;go_wp2_with fail;refine(AR i _ _ b.1 b.2 c.out.hp c.out.hr c.out.d).mono ?_;rintro e w1 ⟨R,rfl,m,k⟩;rw[show iV b.1 b.2=dg b.1 b.2 by unfold iV;rw[if_neg (by rw[c.out.ok];simp)]] at m;rw[c.out.ok];obtain⟨Y,Z,rfl,_⟩:=m;have q:=bH w1 (.cells #[.int .i64 ((dg b.1 b.2).length:Nat)] 3);have K:=bK (k.trans (q.mono k.size))
  have p:Hid (aT [(dg b.1 b.2).length]):=⟨Q1,λV C=>by
   rw[List.mem_singleton] at C;have:=(oA c.out.ok (cC (bM b.1 b.2))).2;subst C
   exact Nat.le_trans this Q0⟩
  have L:=sy _ _ _ (sK w1 (dg b.1 b.2).length) p (c.out.e.a K.out);rw[show fp [(dg b.1 b.2).length]=Lib.decDigits (dg b.1 b.2).length by simp[fp,List.intercalate]] at L;clear q0 q1 k q;go_wp2_with fail;refine mo_ L λab Q=>?_;have z:=bK (K.out.trans (Q.mono K.out.size));clear L Q;go_wp2_with fail;refine bodyPost_ret (v:=.tuple #[.string (bN (Lib.decDigits (dg b.1 b.2).length)),.int .i64 0]) Yd rfl ?_;rw[HA.out];exact qz c z (by have:=(oA c.out.ok (cC (bM b.1 b.2))).2;have:=su (n:=(dg b.1 b.2).length) (Nat.le_trans this Q0);omega)
 by_cases h1:s=[115,116,114,97,116,97]
 .have HA:Hid (cq b s=(b,fp (bM b.1 b.2))):=by
   show _=_;unfold cq;rw[if_neg g,if_pos h1]
  have n:=kT (l:=[109,111,100,101,108]) f;rw[decide_eq_false g] at n;have x:=kT (l:=[115,116,114,97,116,97]) f;rw[decide_eq_true h1] at x;obtain⟨q0,q1,_,_⟩:=c.out.a;clear f g h1;go_enter func10,ntmps10;go_wp2_with fail;refine(pS i _ _ b.1 b.2 c.out.hp c.out.hr c.out.d).mono ?_;rintro e w1 ⟨⟨R,rfl,_,m⟩,k⟩;rw[c.out.ok];have A:=bK (m _ (iq c.out.ok).1 c.out.ok);clear m;obtain⟨S,U,rfl,_⟩:=id A.out;clear q0 q1;have t:=bK k;clear k;go_wp2_with fail;refine mo_ (sy w1 _ _ A (sJ c.out.ok) (c.out.e.a t.out)) λX q=>?_;have z:=bK (t.out.trans (q.mono t.out.size));clear q;go_wp2_with fail;refine bodyPost_ret (v:=.tuple #[.string (bN (fp (bM b.1 b.2))),.int .i64 0]) Yd rfl ?_;rw[HA.out];exact qz c z (qC (sJ c.out.ok))
 by_cases h2:s=[114,111,117,110,100,115]
 .have HA:Hid (cq b s=(b,fp (iW b.1 b.2))):=by
   show _=_;unfold cq;rw[if_neg g,if_neg h1,if_pos h2]
  have n:=kT (l:=[109,111,100,101,108]) f;rw[decide_eq_false g] at n;have x:=kT (l:=[115,116,114,97,116,97]) f;rw[decide_eq_false h1] at x;have D:=kT (l:=[114,111,117,110,100,115]) f;rw[decide_eq_true h2] at D;obtain⟨q0,q1,_,_⟩:=c.out.a;clear f g h1 h2;go_enter func10,ntmps10;go_wp2_with fail;refine(IA i _ _ b.1 b.2 c.out.hp c.out.hr c.out.d).mono ?_;rintro e w1 ⟨R,rfl,m,k⟩;rw[show mK b.1 b.2=iW b.1 b.2 by unfold mK;rw[if_neg (by rw[c.out.ok];simp)]] at m;rw[c.out.ok];have A:=bK m;clear m;obtain⟨S,U,rfl,_⟩:=id A.out;clear q0 q1;have t:=bK k;clear k;go_wp2_with fail;refine mo_ (sy w1 _ _ A (sH c.out.ok) (c.out.e.a t.out)) λX q=>?_;have z:=bK (t.out.trans (q.mono t.out.size));clear q;go_wp2_with fail;refine bodyPost_ret (v:=.tuple #[.string (bN (fp (iW b.1 b.2))),.int .i64 0]) Yd rfl ?_;rw[HA.out];exact qz c z (qC (sH c.out.ok))
 by_cases h3:s=[115,116,101,112,115]
 .have HA:Hid (cq b s=(b,fp (lX b))):=by
   show _=_;unfold cq;rw[if_neg g,if_neg h1,if_neg h2,if_pos h3]
  have n:=kT (l:=[109,111,100,101,108]) f;rw[decide_eq_false g] at n;have x:=kT (l:=[115,116,114,97,116,97]) f;rw[decide_eq_false h1] at x;have D:=kT (l:=[114,111,117,110,100,115]) f;rw[decide_eq_false h2] at D;have P:=kT (l:=[115,116,101,112,115]) f;rw[decide_eq_true h3] at P;obtain⟨q0,q1,_,_⟩:=c.out.a;clear f g h1 h2 h3;go_enter func10,ntmps10;go_wp2_with fail;refine(Nj i y b G I H J c.out).mono ?_;exact Y0
 have C:cq b s=match bT qr s with
  |some h=>(b,gT b h)
  |none=>match bT qA s with
   |some h=>jT b h
   |none=>(b,eY 1):=by
  unfold cq
  rw[if_neg g,if_neg h1,if_neg h2,if_neg h3]
  cases bT qr s with
  |some h=>rfl
  |none=>cases bT qA s<;>rfl
 have B:∀{W h:List UInt8},bT W s=some h->h.length<=4096:=λF=>by have:=fU F;omega
 have r:=yk N ⟨#[97,115,107,32]⟩;have o:=yk N ⟨#[100,114,111,112,32]⟩;rw[f,show bG (⟨#[97,115,107,32]⟩:ByteArray)=qr from rfl] at r;rw[f,show bG (⟨#[100,114,111,112,32]⟩:ByteArray)=qA from rfl] at o;have p:=bK C;clear C;have n:=kT (l:=[109,111,100,101,108]) f;rw[decide_eq_false g] at n;have x:=kT (l:=[115,116,114,97,116,97]) f;rw[decide_eq_false h1] at x;have D:=kT (l:=[114,111,117,110,100,115]) f;rw[decide_eq_false h2] at D;have P:=kT (l:=[115,116,101,112,115]) f;rw[decide_eq_false h3] at P;obtain⟨q0,q1,_,_⟩:=c.out.a;clear f g h1 h2 h3;go_enter func10,ntmps10;go_wp2_with fail;cases j:bT qr s with
 |some h=>
  have HA:Hid (cq b s=(b,gT b h)):=by show _=_;rw[p.out,j]
  have M:=B j;rw[j] at r;refine mo_ (r i) λw1 w=>?_;obtain rfl:=w.symm;clear r o p j B;go_wp2_with fail;refine(Nf i y b G I H J h c M).mono ?_;exact Y0
 |none=>
  rw[j] at r;refine mo_ (r i) λw1 w=>?_;obtain rfl:=w.symm;clear r;go_wp2_with fail;cases u:bT qA s with
  |some h=>
   have HA:Hid (cq b s=jT b h):=by show _=_;rw[p.out,j,u]
   have M:=B u;rw[u] at o;refine mo_ (o i) λw1 w=>?_;obtain rfl:=w.symm;clear o p j u B;go_wp2_with fail;refine(Nh i y b G I H J h c M).mono ?_;exact Y0
  |none=>
   have HA:Hid (cq b s=(b,eY 1)):=by show _=_;rw[p.out,j,u]
   rw[u] at o;refine mo_ (o i) λw1 w=>?_;obtain rfl:=w.symm;clear o p j u B;go_wp2_with fail;refine bodyPost_ret (v:=.tuple #[.string (bN []),.int .i64 1]) (by simp[results,results10,go_sem,bN]) rfl ?_;rw[HA.out];exact vb (E:=1) c (Below.refl _ _) QY QY
