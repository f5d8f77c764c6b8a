import Derived.Test.YtlfccloaoopadagGreatDoorG32
import Derived.Test.YtlfccloaoopadagGreatDoorG44
set_option maxRecDepth 100000
set_option maxHeartbeats 0
open Go.Proofs.Tryz
open List (intercalate map_cons mem_cons setIfInBounds_toArray set_cons_succ set_cons_zero)
open Or (inl)
namespace Go.Proofs.YtlfccloaoopadagGreatDoor
variable{p:Prop}
theorem Er{c d:UInt8}{t:List UInt8}:∀{a:List UInt8},(∀f∈a,f≠c)->Lib.index (a++c::d::t) [c,d]=(a.length:Int)
 |[],_=>by rw[List.nil_append,Lib.index,if_pos Q1];rfl
 |b::a,g=>by
  have ih:=Er (t:=t) (d:=d) λf h=>g f (List.mem_cons_of_mem _ h)
  rw[List.cons_append,Lib.index,if_neg (by simp[Ne.symm (g b Q1)]),ih,if_neg Q1,List.length_cons]
  omega
theorem Eq{f d:UInt8}:∀{a:List UInt8},(∀c∈a,c≠f)->Lib.index a [f,d]= -1
 |[],_=>rfl
 |b::a,g=>by
  rw[Lib.index,if_neg (by simp[Ne.symm (g b Q1)]),Eq λc h=>g c (List.mem_cons_of_mem _ h)]
  rfl
theorem yr(a b c:List UInt8)(d:List (List UInt8)):a.intercalate (b::c::d)=b++(a++a.intercalate (c::d)):=S_
theorem E6{c d:UInt8}(i:List UInt8):∀(f:List (List UInt8)) (a:List UInt8),(∀j∈a::f,∀p∈j,p≠c)->Lib.count ([c,d].intercalate (a::f)) [c,d]=f.length/\Lib.replaceK [c,d] i f ([c,d].intercalate (a::f))=i.intercalate (a::f)
 |[],a,g=>by
  have h:=Eq (d:=d) (g a Q1)
  have e:∀k:List UInt8,k.intercalate [a]=a:=λk=>S9
  rw[e,e]
  exact⟨Lib.count_miss h,rfl⟩
 |b::f,a,g=>by
  obtain⟨m,n⟩:=E6 i f b λj o=>g j (List.mem_cons_of_mem _ o)
  have h:=Er (d:=d) (t:=[c,d].intercalate (b::f)) (g a Q1)
  have e:a++([c,d]++[c,d].intercalate (b::f))=a++c::d::[c,d].intercalate (b::f):=rfl
  have l:(a++c::d::[c,d].intercalate (b::f)).drop (a.length+[c,d].length)=[c,d].intercalate (b::f):=by
   rw[List.drop_append,List.drop_of_length_le Q0]
   simp
  rw[yr,yr,e,List.length_cons,Lib.replaceK_hit _ _ _ _ a h,Lib.count_hit Q1 h,l,m,n]
  refine⟨Q0,?_⟩
  rw[List.take_left]
  simp
theorem Fp(e:List UInt8):∀(c:List (List UInt8)) (a:List UInt8),(a::c).flatMap (· ++e)=e.intercalate (a::c)++e
 |[],a=>S9
 |b::c,a=>by
  have:=Fp e c b
  rw[List.flatMap_cons,this,yr]
  simp
theorem NK{b:List Prd}{f:List Fct}(h:f≠[])(l:∀a∈f,∀q∈bG (dX b a),q≠46):Lib.replaceAll (Lib.trimSuffix (jf b f) [46,10]) [46,10] [59,32]=jy b f:=by
 cases f with
 |nil=>exact absurd rfl h
 |cons a f=>
  have j:jf b (a::f)=(bG (dX b a)::f.map λa=>bG (dX b a)).flatMap (· ++[46,10]):=by
   rw[<-map_cons (f:=λa=>bG (dX b a)),List.flatMap_map];rfl
  have k:∀g:List UInt8,Lib.trimSuffix (g++[46,10]) [46,10]=g:=λg=>by
   unfold Lib.trimSuffix;rw[if_pos (by unfold Lib.hasSuffix;rw[List.isSuffixOf_iff_suffix];exact List.suffix_append _ _),List.length_append,Nat.add_sub_cancel,List.take_left]
  obtain⟨m,n⟩:=E6 (c:=46) (d:=10) [59,32] (f.map λa=>bG (dX b a)) (bG (dX b a)) λr i=>by
   rw[<-map_cons (f:=λa=>bG (dX b a))] at i;obtain⟨p,o,rfl⟩:=List.mem_map.1 i;exact l p o
  rw[j,Fp,k,Lib.replaceAll,Lib.replace,if_neg Q1,Lib.replaceNum,if_pos Q0,m,n,jy,if_neg h,map_cons]
theorem NI{d:List Prd}{c:Fct}(f:aF d c):ao d (jx d c):=by
 obtain⟨e,g,h⟩:=f.there;have l:=f.arity;refine⟨⟨e,h,g⟩,?_,?_⟩
 .show(([⟨false,c.a⟩,⟨false,c.b⟩]:List Tm).take (dN d c.pred).toNat).length=_;rw[List.length_take];show min _ 2=(dN d c.pred).toNat;omega
 refine List.all_eq_true.2 λm i=>?_;have:=List.mem_of_mem_take i;simp only[mem_cons,List.not_mem_nil,or_false] at this;have j:=f.a;have k:=f.b;rcases this with rfl|rfl<;>simp[db,bQ]<;>omega
theorem NH{b:List Prd}(h:ak b){c:Fct}(d:aF b c):∀a∈bG (dX b c),a≠46:=by
 have f:∀a∈c_ b (jx b c),a≠46:=λa hz=>fA (qw h (NI d) a hz) QY;intro a hz;unfold dX at hz;split at hz
 .rw[lQ] at hz;exact f a hz
 rename_i hk;rw[d_,d_,lQ] at hz;rcases List.mem_append.1 hz with hz|hz
 .exact f a hz
 rcases List.mem_append.1 hz with hz|hz
 .have:a∈([32,61,32]:List UInt8):=hz;have g:∀a∈([32,61,32]:List UInt8),a≠46:=QY;exact g a this
 have i:=d.val hk;exact fA (mp Q0 Q0 a hz) QY
theorem Ep{a:UInt8}:∀{s:List UInt8},Lib.index s [a]= -1->∀d∈s,d≠a
 |[],_,d,hz=>by cases hz
 |b::s,c,d,hz=>by
  rw[Lib.index] at c
  split at c
  .cases c
  rename_i hb
  split at c
  .rename_i hi
   rcases mem_cons.1 hz with rfl|hz
   .rintro rfl
    exact hb Q1
   exact Ep ST d hz
  have:=Lib.index_ge s [a]
  rename_i hi
  exact absurd (show Lib.index s [a]= -1-1 by omega) Q0
theorem Eo{c:UInt8}:∀{s:List UInt8} {i:Nat},Lib.index s [c]=(i:Int)->s=s.take i++c::s.drop (i+1)/\∀a∈s.take i,a≠c
 |[],i,h=>Rm
 |b::s,i,h=>by
  rw[Lib.index] at h
  split at h
  .rename_i hb
   obtain rfl:i=0:=Q0
   have:c=b:=by simpa using hb
   subst this
   exact⟨rfl,λa hz=>by cases hz⟩
  rename_i hb
  split at h
  .omega
  rename_i hi
  have j:=Lib.index_ge s [c]
  have k:Lib.index s [c]≠ -1:=ST
  obtain⟨d,rfl⟩:∃d,i=d+1:=⟨i-1,Q0⟩
  obtain⟨f,g⟩:=Eo (c:=c) (s:=s) (i:=d) Q0
  refine⟨?_,λa hz=>?_⟩
  .rw[List.take_succ_cons,List.drop_succ_cons,List.cons_append,<-f]
  rw[List.take_succ_cons] at hz
  rcases mem_cons.1 hz with rfl|hz
  .rintro rfl
   exact hb Q1
  exact g a hz
theorem OW:∀(k:Nat) (s:List UInt8),Lib.count s [10]=k->∃g i,Lib.splitK [10] 0 k s=g++[i]/\g.length=k/\(∀d,gU d [] s=iP d g)/\(i=[]↔(s=[]\/s.getLast?=some 10)):=by
 intro k;induction k with
 |zero=>
  intro s m
  have c:Lib.index s [10]= -1:=by
   rcases Classical.em (Lib.index s [10]= -1) with h|h
   .exact h
   have x:=Lib.index_ge s [10];have:=Lib.count_hit (s:=s) (sub:=[10]) (i:=(Lib.index s [10]).toNat) Q1 Q0;omega
  have n:=Ep c;refine⟨[],s,rfl,rfl,λd=>EV n,λh=>.inl h,λh=>?_⟩;rcases h with h|h
  .exact h
  exact absurd rfl (n 10 (List.mem_of_getLast? h))
 |succ k ih=>
  intro s m;have x:=Lib.index_ge s [10];have c:Lib.index s [10]≠ -1:=λh=>by rw[Lib.count_miss h] at m;omega
  obtain⟨a,c⟩:∃a:Nat,Lib.index s [10]=(a:Int):=⟨(Lib.index s [10]).toNat,Q0⟩;obtain⟨j,t⟩:=Eo c;have u:=Lib.count_hit Q1 c;obtain⟨g,i,o,p,q,r⟩:=ih (s.drop (a+1)) (by have:Lib.count s [10]=1+Lib.count (s.drop (a+1)) [10]:=u;omega);refine⟨s.take a::g,i,?_,by simp[p],λd=>?_,?_⟩
  .rw[Lib.splitK,if_neg (by rw[c];simp),c,Int.toNat_natCast];exact congrArg (s.take a:: ·) o
  .have:=yH (x:=d) (b:=s.drop (a+1)) (cur:=[]) t;rw[<-j,List.nil_append] at this;rw[this,iP,<-q]
  rw[r];have y:s≠[]:=by rintro rfl;cases c
  obtain⟨f,v⟩:=ex_ (s.drop (a+1));rw[v] at j⊢
  have w:s.getLast?=if f=[] then some 10 else f.getLast?:=by
   rw[j,List.getLast?_append,List.getLast?_cons];cases f with
   |nil=>rfl
   |cons z f=>simp[List.getLast?_cons]
  rw[w];by_cases l:f=[]
  .simp[l]
  simp[l,y]
open Go.ChangeShapes Go.WideShapes Go.ChangeAt Go.RowKit
theorem sO(a:World)(n:Nat)(h:n<=1000):Calls prog 40 #[n] a λe f=>e=.returned (.string (bN (eY n)))/\Below a a f:=by
 have d:=vd a n Q0;have i:=sw (n:=n) Q0;rw[show bN (eY n)=(⟨#[101,114,114,111,114,32]⟩:ByteArray)++fj n from kj (by rw[d_,de,fj,de];rfl)];generalize fj n=g at*;go_enter func40,ntmps40;go_wp2_with(go_at_call 41;refine mo_ d λj b=>?_;have c:=bK b;clear b);go_ret;exact⟨rfl,c.out⟩
structure Gv (w:World) (pv rv:Value) (ps:List Prd) (rs:List Rul) (x:World):Prop where
 p:cR x w.heap.size pv rv
 r:cR x (w.heap.size+1) (.slice none 0 0) (.slice none 0 0)
 ps0:bR w pv ps
 rs0:ck w rv rs
 below:Below w w x
theorem Gv.d{j:World}{f i:Value}{c:List Prd}{h:List Rul}{g:World}(b:Gv j f i c h g):bR g f c:=bR.a b.below b.ps0
theorem Gv.e{i:World}{h d:Value}{g:List Prd}{c:List Rul}{f:World}(b:Gv i h d g c f):ck f d c:=ck.a b.below b.rs0
theorem Gv.b{j:World}{g i:Value}{f:List Prd}{h:List Rul}{d k:World}(a:Gv j g i f h d)(c:Below d d k):Gv j g i f h k:=
 ⟨a.p.b c,a.r.b c,a.ps0,a.rs0,a.below.trans (c.mono a.below.size)⟩
theorem Gv.a{h:World}{d g:Value}{c:List Prd}{f:List Rul}{i:World}(j:Gv h d g c f i):Gv h d g c f i.drew:=j.b (Below.refl _ _).drew
theorem Gv.c{a:World}{b f:Value}{i:List Prd}{j:List Rul}{g:World}(h:Gv a b f i j g)(k l:Value):cR ((g.setCell ⟨a.heap.size+1,0,none⟩ k).setCell ⟨a.heap.size+1,1,none⟩ l) a b f:=(h.p.d Q0).d Q0
theorem Gv.f{a:World}{g i:Value}{d:List Prd}{h:List Rul}{b:World}(c:Gv a g i d h b)(j k:Value):Below a a ((b.setCell ⟨a.heap.size+1,0,none⟩ j).setCell ⟨a.heap.size+1,1,none⟩ k):=(c.below.setCell (p:=⟨a.heap.size+1,0,none⟩) (Nat.le_succ _) _).setCell (p:=⟨a.heap.size+1,1,none⟩) (Nat.le_succ _) _
structure aM (w:World) (pv rv:Value) (ps:List Prd) (rs:List Rul) (s:ByteArray):Prop where
 hp:bR w pv ps
 hr:ck w rv rs
 cap:kM rv
 ok:bP ps rs=0
 few:s.size<=4096
def mS(w:World)(L:dQ×List UInt8)(e:Ending)(x:World):Prop:=∃pv rv,e=.returned (.tuple #[.agg #[pv,rv],.string (bN L.2)])/\bR x pv L.1.1/\ck x rv L.1.2/\kM rv/\Below w w x
theorem pi{d:World}{a c:Value}{k:List Prd}{l:List Rul}{s:ByteArray}(h:aM d a c k l s){i:World}(n:(d.alloc (.cells #[a,c] 30)).alloc (.cells #[.slice none 0 0,.slice none 0 0] 30)=i):Gv d a c k l i:=by
 have o:=bH d (.cells #[a,c] 30);have g:=bH (d.alloc (.cells #[a,c] 30)) (.cells #[.slice none 0 0,.slice none 0 0] 30);have j:=bt_ o g;have m:cR _ d a c:=heap_alloc_new d (.cells #[a,c] 30);have f:=heap_alloc_new (d.alloc (.cells #[a,c] 30)) (.cells #[.slice none 0 0,.slice none 0 0] 30);rw[World.size_alloc] at f;rw[n] at j g f;exact⟨m.b g,f,h.hp,h.hr,j⟩
theorem mq{g:World}{c d:Value}{h:List Prd}{i:List Rul}{s:ByteArray}(m:aM g c d h i s){l:World}(b:Gv g c d h i l){j:dQ×List UInt8}{k:List UInt8}(n:j=((h,i),k)):mS g j (.returned (.tuple #[.agg #[c,d],.string (bN k)])) ((l.setCell ⟨g.heap.size+1,0,none⟩ c).setCell ⟨g.heap.size+1,1,none⟩ d):=by
 subst n;exact⟨c,d,rfl,bR.a (b.f _ _) b.ps0,ck.a (b.f _ _) b.rs0,m.cap,b.f _ _⟩
theorem gj(s:ByteArray)(l:List UInt8):(s.toList==l)=decide (bG s=l):=by
 rw[ByteArray.toList_eq];by_cases a:bG s=l
 .rw[decide_eq_true a,<-a];exact beq_self_eq_true _
 rw[decide_eq_false a,beq_eq_false_iff_ne];exact a
theorem Yx(h:p:=by (intro w hSw;have q0:=cR.a hSw;obtain⟨q0,q1,_,_⟩:=q0;go_simp;try with_reducible rfl)):p:=h
theorem NR{w:World}{m o:Option Addr}{n q:Nat}{g:List Prd}{h:List Rul}{s:ByteArray}(y:aM w (.slice m g n) (.slice o h q) g h s)(z:bG s=[109,111,100,101,108]):Calls prog 13 #[.agg #[.slice m g n,.slice o h q],.string s] w (mS w (cq (g,h) (bG s))):=by
 have x:=bK y
 have C:Hid (cq (g,h) (bG s)=((g,h),Lib.decDigits (dg g h).length)):=by
  show _=_;unfold cq;rw[if_pos z]
 have F:=gj s [109,111,100,101,108];rw[decide_eq_true z] at F;obtain⟨I,A⟩:=ex_ ((w.alloc (.cells #[.slice m g n,.slice o h q] 30)).alloc (.cells #[.slice none 0 0,.slice none 0 0] 30));have t:=bK (pi y A);clear y z;go_enter func13,ntmps13;go_wp2_with fail;clear A;refine wp_region_noPanic ?_;refine wp_region_held_drew (S:=λH=>cR H w.heap.size (.slice m g n) (.slice o h q)) QX t.out.a.p (λk=>?_);refine tk_ 0 ?_ rfl ?_ ?_;rotate_left
 .exact Yx
 simp only[Act.put];refine tk_ 1 ?_ rfl ?_ ?_;rotate_left
 .exact Yx
 simp only[Act.put];refine rd_ 2 rfl λi f=>?_;go_simp;refine(A3 _ _ _ g h t.out.a.d t.out.a.e x.out.ok).mono ?_;rintro e G ⟨N,rfl,B,l⟩;have u:=bK (t.out.a.b l);obtain⟨J,K,rfl,_⟩:=id B;clear B;clear l;refine f.out _ _ u.out.p (λk=>?_);clear f i;try simp only[sq_]
 refine rd_ 3 rfl λi f=>?_;go_simp;refine f.out _ _ u.out.p (λk=>?_);clear f i;try simp only[sq_]
 refine rd_ 4 rfl λi f=>?_;go_simp;refine(vd G (dg g h).length (by have:=(oA x.out.ok (cC (bM g h))).2;unfold dg;omega)).mono ?_;rintro e O ⟨rfl,l⟩;have j:=bK (u.out.b l);clear l;refine f.out _ _ j.out.p (λk=>?_);clear f i;try simp only[sq_]
 refine rd_ 5 rfl λi f=>?_;obtain⟨D,E,L,M⟩:=j.out.r.a;go_simp;refine f.out _ _ (j.out.c _ _) (λk=>?_);clear f i;try simp only[sq_]
 refine rd_ 6 rfl λi f=>?_;go_simp;refine f.out _ _ (j.out.c _ _) (λk=>?_);clear f i;try simp only[sq_]
 refine wpAnyH_done QX ?_ _;refine NoPanic.normal ?_;go_wp2_with fail;exact bodyPost_ret (v:=.tuple #[.agg #[.slice m g n,.slice o h q],.string (bN (Lib.decDigits (dg g h).length))]) (by simp[results,results13,go_sem,D,E,fj]) rfl (mq x j C.out)
theorem XD(h:p:=by simp[results,results13,go_sem,d0,d1]):p:=h
theorem NV{w:World}{m o:Option Addr}{n q:Nat}{f:List Prd}{g:List Rul}{s:ByteArray}(v:aM w (.slice m f n) (.slice o g q) f g s)(x:¬bG s=[109,111,100,101,108])(y:bG s=[115,116,114,97,116,97]):Calls prog 13 #[.agg #[.slice m f n,.slice o g q],.string s] w (mS w (cq (f,g) (bG s))):=by
 have i:=bK v
 have D:Hid (cq (f,g) (bG s)=((f,g),fp (bM f g))):=by
  show _=_;unfold cq;rw[if_neg x,if_pos y]
 have G:=gj s [109,111,100,101,108];rw[decide_eq_false x] at G;have H:=gj s [115,116,114,97,116,97];rw[decide_eq_true y] at H;obtain⟨L,A⟩:=ex_ ((w.alloc (.cells #[.slice m f n,.slice o g q] 30)).alloc (.cells #[.slice none 0 0,.slice none 0 0] 30));have t:=bK (pi v A);clear v x y;go_enter func13,ntmps13;go_wp2_with fail;clear A;refine wp_region_noPanic ?_;refine wp_region_held_drew (S:=λK=>cR K w.heap.size (.slice m f n) (.slice o g q)) QX t.out.a.p (λu=>?_);refine tk_ 0 ?_ rfl ?_ ?_;rotate_left
 .exact Yx
 simp only[Act.put];refine tk_ 1 ?_ rfl ?_ ?_;rotate_left
 .exact Yx
 simp only[Act.put];refine rd_ 2 rfl λj h=>?_;go_simp;refine(pX _ _ _ f g t.out.a.d t.out.a.e (iz i.out.ok).preds (iz i.out.ok).rules (gN (gO i.out.ok).1).2.2).mono ?_;rintro e J ⟨⟨C,rfl,B⟩,l⟩;have z:=bK (t.out.a.b l);have E:=bK (B _ (iq i.out.ok).1);clear B;clear l;refine h.out _ _ z.out.p (λu=>?_);clear h j;try simp only[sq_]
 refine rd_ 3 rfl λj h=>?_;go_simp;refine mo_ (yu J C _ E (by have:=(sJ i.out.ok).few;omega) (λI F=>by have:=(sJ i.out.ok).low I F;omega)) λO l=>?_;have k:=bK (z.out.b l);clear l;refine h.out _ _ k.out.p (λu=>?_);clear h j;try simp only[sq_]
 refine rd_ 4 rfl λj h=>?_;obtain⟨d0,d1,M,N⟩:=k.out.r.a;go_simp;refine h.out _ _ (k.out.c _ _) (λu=>?_);clear h j;try simp only[sq_]
 refine rd_ 5 rfl λj h=>?_;go_simp;refine h.out _ _ (k.out.c _ _) (λu=>?_);clear h j;try simp only[sq_]
 refine wpAnyH_done QX ?_ _;refine NoPanic.normal ?_;go_wp2_with fail;exact bodyPost_ret (v:=.tuple #[.agg #[.slice m f n,.slice o g q],.string (bN (fp (bM f g)))]) XD rfl (mq i k D.out)
theorem NT{w:World}{l n:Option Addr}{m o:Nat}{f:List Prd}{g:List Rul}{s:ByteArray}(v:aM w (.slice l f m) (.slice n g o) f g s)(x:¬bG s=[109,111,100,101,108])(y:¬bG s=[115,116,114,97,116,97])(z:bG s=[114,111,117,110,100,115]):Calls prog 13 #[.agg #[.slice l f m,.slice n g o],.string s] w (mS w (cq (f,g) (bG s))):=by
 have t:=bK v
 have E:Hid (cq (f,g) (bG s)=((f,g),fp (iW f g))):=by
  show _=_;unfold cq;rw[if_neg x,if_neg y,if_pos z]
 have H:=gj s [109,111,100,101,108];rw[decide_eq_false x] at H;have I:=gj s [115,116,114,97,116,97];rw[decide_eq_false y] at I;have J:=gj s [114,111,117,110,100,115];rw[decide_eq_true z] at J;obtain⟨N,B⟩:=ex_ ((w.alloc (.cells #[.slice l f m,.slice n g o] 30)).alloc (.cells #[.slice none 0 0,.slice none 0 0] 30));have q:=bK (pi v B);clear v x y z;go_enter func13,ntmps13;go_wp2_with fail;clear B;refine wp_region_noPanic ?_;refine wp_region_held_drew (S:=λM=>cR M w.heap.size (.slice l f m) (.slice n g o)) QX q.out.a.p (λu=>?_);refine tk_ 0 ?_ rfl ?_ ?_;rotate_left
 .exact Yx
 simp only[Act.put];refine tk_ 1 ?_ rfl ?_ ?_;rotate_left
 .exact Yx
 simp only[Act.put];refine rd_ 2 rfl λi h=>?_;go_simp;refine(IR _ _ _ f g q.out.a.d q.out.a.e t.out.ok).mono ?_;rintro e L ⟨D,rfl,C,k⟩;have A:=bK (q.out.a.b k);have F:=bK C;clear C;clear k;refine h.out _ _ A.out.p (λu=>?_);clear h i;try simp only[sq_]
 refine rd_ 3 rfl λi h=>?_;go_simp;refine mo_ (yu L D _ F (by have:=(sH t.out.ok).few;omega) (λK G=>by have:=(sH t.out.ok).low K G;omega)) λQ k=>?_;have j:=bK (A.out.b k);clear k;refine h.out _ _ j.out.p (λu=>?_);clear h i;try simp only[sq_]
 refine rd_ 4 rfl λi h=>?_;obtain⟨d0,d1,O,P⟩:=j.out.r.a;go_simp;refine h.out _ _ (j.out.c _ _) (λu=>?_);clear h i;try simp only[sq_]
 refine rd_ 5 rfl λi h=>?_;go_simp;refine h.out _ _ (j.out.c _ _) (λu=>?_);clear h i;try simp only[sq_]
 refine wpAnyH_done QX ?_ _;refine NoPanic.normal ?_;go_wp2_with fail;exact bodyPost_ret (v:=.tuple #[.agg #[.slice l f m,.slice n g o],.string (bN (fp (iW f g)))]) XD rfl (mq t j E.out)
theorem NU{w:World}{n q:Option Addr}{o t:Nat}{f:List Prd}{g:List Rul}{s:ByteArray}(y:aM w (.slice n f o) (.slice q g t) f g s)(z:¬bG s=[109,111,100,101,108])(A:¬bG s=[115,116,114,97,116,97])(B:¬bG s=[114,111,117,110,100,115])(C:bG s=[115,116,101,112,115]):Calls prog 13 #[.agg #[.slice n f o,.slice q g t],.string s] w (mS w (cq (f,g) (bG s))):=by
 have l:=bK y
 have I:Hid (cq (f,g) (bG s)=((f,g),fp (lX (f,g)))):=by
  show _=_;unfold cq;rw[if_neg z,if_neg A,if_neg B,if_pos C]
 have O:=gj s [109,111,100,101,108];rw[decide_eq_false z] at O;have P:=gj s [115,116,114,97,116,97];rw[decide_eq_false A] at P;have Q:=gj s [114,111,117,110,100,115];rw[decide_eq_false B] at Q;have R:=gj s [115,116,101,112,115];rw[decide_eq_true C] at R;obtain⟨K,F⟩:=ex_ ((w.alloc (.cells #[.slice n f o,.slice q g t] 30)).alloc (.cells #[.slice none 0 0,.slice none 0 0] 30));have v:=bK (pi y F);clear y z A B C;obtain⟨L,M,_,_⟩:=v.out.p.a;go_enter func13,ntmps13;go_wp2_with fail;clear F;refine(Lx K _ _ f g v.out.d v.out.e l.out.ok).mono ?_;rintro e aa ⟨Z,rfl,_,j⟩;have u:=bK (v.out.b j);clear j L M;go_wp2_with fail;refine wp_region_noPanic ?_;refine wp_region_held_drew (S:=λD=>cR D w.heap.size (.slice n f o) (.slice q g t)) QX u.out.a.p (λk=>?_);refine tk_ 0 ?_ rfl ?_ ?_;rotate_left
 .exact Yx
 simp only[Act.put];refine tk_ 1 ?_ rfl ?_ ?_;rotate_left
 .exact Yx
 simp only[Act.put];refine tk_ 4 ?_ rfl ?_ ?_;rotate_left
 .exact Yx
 simp only[Act.put];refine rd_ 2 rfl λi h=>?_;go_simp;refine(QL _ _ _ f g u.out.a.d u.out.a.e l.out.ok).mono ?_;rintro e H ⟨U,rfl,G,j⟩;have x:=bK (u.out.a.b j);obtain⟨X,Y,rfl,_⟩:=id G;clear G;clear j;refine h.out _ _ x.out.p (λk=>?_);clear h i;try simp only[sq_]
 refine rd_ 3 rfl λi h=>?_;go_simp;refine h.out _ _ x.out.p (λk=>?_);clear h i;try simp only[sq_]
 refine rd_ 5 rfl λi h=>?_;go_simp;have j:=bH H (.cells #[.int .i64 ((mx f g).length:Nat),.int .i64 (dA f g (cC (bM f g)):Nat)] 3);have J:=vD H (mx f g).length (dA f g (cC (bM f g)));have E:=bK (x.out.b j);clear j;refine h.out _ _ E.out.p (λk=>?_);clear h i;try simp only[sq_]
 refine rd_ 6 rfl λi h=>?_;go_simp;refine(yu _ _ (lX (f,g)) J (by have:=(sI (x:=(f,g)) l.out.ok).few;omega) (λT N=>by have:=(sI (x:=(f,g)) l.out.ok).low T N;omega)).mono ?_;rintro e ab ⟨rfl,j⟩;have m:=bK (E.out.b j);clear j;refine h.out _ _ m.out.p (λk=>?_);clear h i;try simp only[sq_]
 refine rd_ 7 rfl λi h=>?_;obtain⟨d0,d1,V,W⟩:=m.out.r.a;go_simp;refine h.out _ _ (m.out.c _ _) (λk=>?_);clear h i;try simp only[sq_]
 refine rd_ 8 rfl λi h=>?_;go_simp;refine h.out _ _ (m.out.c _ _) (λk=>?_);clear h i;try simp only[sq_]
 refine wpAnyH_done QX ?_ _;refine NoPanic.normal ?_;go_wp2_with fail;exact bodyPost_ret (v:=.tuple #[.agg #[.slice n f o,.slice q g t],.string (bN (fp (lX (f,g))))]) XD rfl (mq l m I.out)
theorem D_{a:UInt8}:∀s:List UInt8,(bY [a] s).2.2=true->s=(bY [a] s).1++a::(bY [a] s).2.1
 |[],h=>Rm
 |b::s,h=>by
  rw[bY] at h⊢
  split at h
  .rename_i t ht
   simpa using gi.1 ht
  split at h
  .rename_i hb
   rw[if_pos hb]
   exact congrArg (b:: ·) (D_ s hb)
  cases h
theorem Fr{a s:List UInt8}(f:∀g∈a,g≠32):bT (a++[32]) s=if(bY [32] s).2.2=true/\(bY [32] s).1=a then some (bY [32] s).2.1 else none:=by
 split
 .rename_i h;refine gi.2 ?_;have:=D_ s h.1;rw[h.2] at this;simpa using this
 rename_i h;cases d:bT (a++[32]) s with
 |none=>rfl
 |some c=>
  have e:=gi.1 d;rw[List.append_assoc] at e;have:=nH (b:=c) f;rw[show a++32::c=s from e.symm] at this;rw[this] at h;exact absurd ⟨rfl,rfl⟩ h
structure aX (s:ByteArray):Prop where
 h0:¬bG s=[109,111,100,101,108]
 h1:¬bG s=[115,116,114,97,116,97]
 h2:¬bG s=[114,111,117,110,100,115]
 h3:¬bG s=[115,116,101,112,115]
theorem aa1(h:p:=by
 rename_i r hr
 split at hr
 .rename_i hc
  rw[if_pos hc,Option.some.inj hr]
 cases hr):p:=h
theorem yD{s:ByteArray}(b:aX s)(a:dQ):cq a (bG s)=if(bY [32] (bG s)).2.2=true/\(bY [32] (bG s)).1=[97,115,107] then(a,gT a (bY [32] (bG s)).2.1) else if(bY [32] (bG s)).2.2=true/\(bY [32] (bG s)).1=[100,114,111,112] then jT a (bY [32] (bG s)).2.1 else(a,eY 1):=by
 unfold cq;rw[if_neg b.h0,if_neg b.h1,if_neg b.h2,if_neg b.h3,show qr=[97,115,107]++[32] from rfl,show qA=[100,114,111,112]++[32] from rfl,Fr QY,Fr QY];split
 .exact aa1
 rename_i hr;split at hr
 .cases hr
 rename_i hc;rw[if_neg hc];split
 .exact aa1
 rename_i hr;split at hr
 .cases hr
 rename_i hc;rw[if_neg hc]
theorem Ff{a:List Prd}{f:List Rul}(b:bP a f=0):dU a:=λd c=>by have:=(iz b).name d c;omega
theorem OJ{a:List Prd}{b:List Rul}{c:Atm}(d:bP a b=0)(f:cf a c=0):e9 a b (dg a b) c=0/\gJ a b (dg a b) c=dJ (dg a b) c:=by
 have e:e9 a b (dg a b) c=0:=by
  unfold e9 dg;rw[if_neg (by rw[kF d];simp),f]
 exact⟨e,by unfold gJ;rw[if_neg Sj]⟩
theorem YA(h:p:=by
 clear hb
 refine hK.out _ _ HX.out.p (λhHeld=>?_)
 clear hK K
 try simp only[sq_]
 refine rd_ 3 rfl λK hK=>?_
 obtain⟨d0,d1,g0,g1⟩:=HX.out.r.a
 go_simp
 refine hK.out _ _ (HX.out.c _ _) (λhHeld=>?_)
 clear hK K
 try simp only[sq_]
 refine rd_ 4 rfl λK hK=>?_
 go_simp
 refine hK.out _ _ (HX.out.c _ _) (λhHeld=>?_)
 clear hK K
 try simp only[sq_]
 refine wpAnyH_done QX ?_ _
 refine NoPanic.normal ?_
 go_wp2_with fail
 exact bodyPost_ret (v:=.tuple #[.agg #[.slice pa ps pc,.slice ra rs rc],.string (bN (eY 1))]) XD rfl (mq HI HX HA.out)):p:=h
theorem ZH(h:p:=by
 have:=(je (p:=[32]) Q1 (bG s)).2.1
 rw[hc,cD] at this
 show r.length<=4096
 have h2:r.length<=s.size:=this
 have:=I.few
 omega):p:=h
theorem afl(h:p:=by
 go_wp2_with fail
 refine wp_region_noPanic ?_
 refine wp_region_held_drew (S:=λx=>cR x w.heap.size (.slice pa ps pc) (.slice ra rs rc)) QX H3.out.a.p (λhHeld=>?_)
 refine tk_ 0 ?_ rfl ?_ ?_
 rotate_left
 .exact Yx
 simp only[Act.put]
 refine tk_ 1 ?_ rfl ?_ ?_
 rotate_left
 .exact Yx
 simp only[Act.put]
 refine rd_ 2 rfl λK hK=>?_
 go_simp
 refine mo_ (sO _ 1 Q0) λw8 hb=>?_
 have HX:=bK (H3.out.a.b hb)
 exact YA):p:=h
theorem NS{w:World}{pa ra:Option Addr}{pc rc:Nat}{ps:List Prd}{rs:List Rul}{s:ByteArray}(I:aM w (.slice pa ps pc) (.slice ra rs rc) ps rs s)(d:aX s){f r:List UInt8}{i:Bool}(hc:bY [32] (bG s)=(f,r,i))(j:¬(i=true/\f=[97,115,107]))(h2:¬(i=true/\f=[100,114,111,112])):Calls prog 13 #[.agg #[.slice pa ps pc,.slice ra rs rc],.string s] w (mS w (cq (ps,rs) (bG s))):=by
 have HI:=bK I;have g:=bK (yD d (ps,rs));rw[hc] at g;simp only at g;have B:=gj s [109,111,100,101,108];rw[decide_eq_false d.h0] at B;have C:=gj s [115,116,114,97,116,97];rw[decide_eq_false d.h1] at C;have D:=gj s [114,111,117,110,100,115];rw[decide_eq_false d.h2] at D;have E:=gj s [115,116,101,112,115];rw[decide_eq_false d.h3] at E;obtain⟨A,t⟩:=ex_ ((w.alloc (.cells #[.slice pa ps pc,.slice ra rs rc] 30)).alloc (.cells #[.slice none 0 0,.slice none 0 0] 30));have n:=bK (pi I t);have h:=lm A s ⟨#[32]⟩ QY QY (by have:=I.few;omega)
 have F:Hid (r.length<=4096):=by
  exact ZH
 rw[show bG (⟨#[32]⟩:ByteArray)=[32] from rfl,hc] at h;simp only at h;clear hc I d;obtain⟨o,q,_,_⟩:=n.out.p.a;go_enter func13,ntmps13;go_wp2_with fail;clear t;refine h.mono ?_;clear h o q;rintro e G ⟨rfl,hb⟩;have H3:=bK (n.out.b hb);obtain⟨o,q,_,_⟩:=H3.out.p.a;obtain⟨z,k⟩:=ex_ (bN f);have l:∀m,(z.toList==m)=decide (f=m):=λm=>by rw[gj,<-k,de]
 rw[k];clear hb k
 have HA:Hid (cq (ps,rs) (bG s)=((ps,rs),eY 1)):=by
  show _=_;rw[g.out,if_neg j,if_neg h2]
 have u:=l [97,115,107];have y:=l [100,114,111,112];clear g l;cases i with
 |true=>
  rw[decide_eq_false λe=>j ⟨rfl,e⟩] at u;rw[decide_eq_false λe=>h2 ⟨rfl,e⟩] at y;clear j h2;exact afl
 |false=>
  clear j h2 u y;exact afl
theorem XE(h:p:=by simp[results,results13,go_sem,d0,d1,bN]):p:=h
theorem YB(h:p:=by (intro w hSw;have q0:=cR.a hSw.1;have q2:=hSw.2;obtain⟨q0,q1,_,_⟩:=q0;obtain⟨q2,q3,q4,q5⟩:=q2;go_simp;try with_reducible rfl)):p:=h
theorem Y1(h:p:=by (intro w hSw;have q0:=cR.a hSw.1;have q2:=dT.a hSw.2;obtain⟨q0,q1,_,_⟩:=q0;obtain⟨q2,q3,_,_⟩:=q2;go_simp;try with_reducible rfl)):p:=h
theorem NO{w:World}{pa ra:Option Addr}{pc rc:Nat}{ps:List Prd}{rs:List Rul}{s:ByteArray}(I:aM w (.slice pa ps pc) (.slice ra rs rc) ps rs s)(D:aX s){U r:List UInt8}{aC:Bool}(hc:bY [32] (bG s)=(U,r,aC))(P:aC=true/\U=[97,115,107]):Calls prog 13 #[.agg #[.slice pa ps pc,.slice ra rs rc],.string s] w (mS w (cq (ps,rs) (bG s))):=by
 have HI:=bK I;have u:=bK (yD D (ps,rs));rw[hc] at u;simp only at u;have a4:=gj s [109,111,100,101,108];rw[decide_eq_false D.h0] at a4;have a5:=gj s [115,116,114,97,116,97];rw[decide_eq_false D.h1] at a5;have a6:=gj s [114,111,117,110,100,115];rw[decide_eq_false D.h2] at a6;have a7:=gj s [115,116,101,112,115];rw[decide_eq_false D.h3] at a7;obtain⟨aV,aH⟩:=ex_ ((w.alloc (.cells #[.slice pa ps pc,.slice ra rs rc] 30)).alloc (.cells #[.slice none 0 0,.slice none 0 0] 30));have ab:=bK (pi I aH);have j:=lm aV s ⟨#[32]⟩ QY QY (by have:=I.few;omega)
 have aS:Hid (r.length<=4096):=by
  exact ZH
 rw[show bG (⟨#[32]⟩:ByteArray)=[32] from rfl,hc] at j;simp only at j;clear hc I D;obtain⟨N,O,_,_⟩:=ab.out.p.a;go_enter func13,ntmps13;go_wp2_with fail;clear aH;refine j.mono ?_;clear j N O;rintro e bd ⟨rfl,hb⟩;have V:=bK (ab.out.b hb);obtain⟨N,O,_,_⟩:=V.out.p.a;obtain⟨aT,ak⟩:=ex_ (bN U);have aG:∀au,(aT.toList==au)=decide (U=au):=λau=>by rw[gj,<-ak,de]
 rw[ak];clear hb ak;obtain⟨rfl,P⟩:=P;have bc:=aG [97,115,107];rw[decide_eq_true P] at bc;rw[if_pos ⟨rfl,P⟩,show gT (ps,rs) r=match f5 ps r with|none=>eY 1|some g=>jy ps (dJ (dg ps rs) g) from rfl] at u;have j:=MG bd _ ps (bN r) V.out.d (by rw[du];exact aS.out) (qJ HI.out.ok).names (iz HI.out.ok).name (iz HI.out.ok).arity;have Z:=hid_ λg (a1:f5 ps r=some g)=>DT (λa9 a3=>((iz HI.out.ok).arity a9 a3).1) a1;rw[de] at j;clear P aG;go_wp2_with fail;refine j.mono ?_;clear j N O;rintro e t ⟨a8,y,aB,z,rfl,am,hb⟩;have W:=bK (V.out.b hb);clear hb;cases G:f5 ps r with
 |none=>
  have HA:Hid (cq (ps,rs) (bG s)=((ps,rs),eY 1)):=by
   show _=_;rw[u.out,G]
  clear u am G Z;have o:=bK (W.out.b (bH t (.cells #[.int .i64 a8,.slice y aB z] 55)));go_wp2_with fail;refine wp_region_noPanic ?_;refine wp_region_held_drew (S:=λk=>cR k w.heap.size (.slice pa ps pc) (.slice ra rs rc)) QX o.out.a.p (λhHeld=>?_);refine tk_ 0 ?_ rfl ?_ ?_;rotate_left
  .exact Yx
  simp only[Act.put];refine tk_ 1 ?_ rfl ?_ ?_;rotate_left
  .exact Yx
  simp only[Act.put];refine rd_ 2 rfl λK hK=>?_;go_simp;refine mo_ (sO _ 1 Q0) λJ hb=>?_;have HX:=bK (o.out.a.b hb);exact YA
 |some g=>
  obtain⟨rfl,aq⟩:=am g G;have al:=OJ HI.out.ok (Z g G)
  have HA:Hid (cq (ps,rs) (bG s)=((ps,rs),jy ps (dJ (dg ps rs) g))):=by
   show _=_;rw[u.out,G]
  obtain rfl:aB=g.args.length:=by
   obtain⟨_,_,e,_⟩:=id aq;exact(Value.slice.inj e).2.1
  have o:=bK (W.out.b (bH t (.cells #[.int .i64 g.pred,.slice y g.args z] 55)));have T:dT (t.alloc (.cells #[.int .i64 g.pred,.slice y g.args z] 55)) t (.int .i64 g.pred) (.slice y g.args z):=heap_alloc_new t _;have ay:=bK (cr.a (bH t (.cells #[.int .i64 g.pred,.slice y g.args z] 55)) aq);have ah:=bK T;have aQ:=bK al.1;have ac:=bK al.2;clear u am G Z al aq T;go_wp2_with fail;generalize t.alloc (.cells #[.int .i64 g.pred,.slice y g.args z] 55)=aW at*;generalize t.heap.size=aJ at*;obtain⟨f,m⟩:=ex_ (dJ (dg ps rs) g);have ae:Hid (∀i∈f,aF ps i):=λi n=>yR HI.out.ok (oA HI.out.ok (cC (bM ps rs))).1 i (List.mem_filter.1 (by rw[<-m] at n;exact n)).1
  have ax:Hid (f.length<=125):=by
   have h2:=(oA HI.out.ok (cC (bM ps rs))).2;have aE:=List.length_filter_le (iR g) (dg ps rs);rw[show(dg ps rs).filter (iR g)=f from m] at aE;exact Nat.le_trans aE h2
  rw[m] at HA ac;clear m;refine wp_region_noPanic ?_;refine wp_region_held_drew (S:=λk=>cR k w.heap.size (.slice pa ps pc) (.slice ra rs rc)/\dT k aJ (.int .i64 g.pred) (.slice y g.args z)) QX ⟨o.out.a.p,ah.out⟩ (λhHeld=>?_);refine tk_ 0 ?_ rfl ?_ ?_;rotate_left
  .exact Y1
  simp only[Act.put];refine tk_ 1 ?_ rfl ?_ ?_;rotate_left
  .exact Y1
  simp only[Act.put];refine tk_ 3 ?_ rfl ?_ ?_;rotate_left
  .exact Y1
  simp only[Act.put];refine rd_ 2 rfl λK hK=>?_;go_simp;refine(A3 _ _ _ ps rs o.out.a.d o.out.a.e HI.out.ok).mono ?_;rintro e be ⟨bb,rfl,m,hb⟩;have L:=bK (o.out.a.b hb);have aw:=bK m;have ai:=bK (dT.d (w:=aW.drew) ah hb);have az:=bK (cr.a hb (cr.a (Below.refl _ _).drew ay.out));clear m;clear hb;refine hK.out _ _ ⟨L.out.p,ai.out⟩ (λhHeld=>?_);clear hK K;try simp only[sq_]
  refine rd_ 4 rfl λK hK=>?_;go_simp;refine(FP be _ _ bb _ ps rs _ g L.out.d L.out.e aw az (Ff HI.out.ok)).mono ?_;rintro e H ⟨br,rfl,m,hb⟩;have l:=bK (L.out.b hb);have Q:=bK m;rw[ac.out] at Q;have M:=bK (ai.out.d hb);clear m;clear hb;refine hK.out _ _ ⟨l.out.p,M.out⟩ (λhHeld=>?_);clear hK K;try simp only[sq_]
  refine rd_ 5 rfl λK hK=>?_;go_simp;refine hK.out _ _ ⟨l.out.p,M.out⟩ (λhHeld=>?_);clear hK K;try simp only[sq_]
  refine tk_ 6 ?_ rfl ?_ ?_;rotate_left
  .exact Y1
  simp only[Act.put];refine tk_ 7 ?_ rfl ?_ ?_;rotate_left
  .exact Y1
  simp only[Act.put];refine rd_ 8 rfl λK hK=>?_;go_simp;refine hK.out _ _ ⟨l.out.p,M.out⟩ (λhHeld=>?_);clear hK K;try simp only[sq_]
  refine rd_ 9 rfl λK hK=>?_;go_simp;refine hK.out _ _ ⟨l.out.p,M.out⟩ (λhHeld=>?_);clear hK K;try simp only[sq_]
  refine wpAnyH_done QX ?_ _;refine NoPanic.normal ?_;clear ai M az aw L;clear ah ay o aQ ac W;have aa:=lf_ Q.out;obtain⟨aY,aD,rfl,_⟩:=id Q.out;clear Q;by_cases an:f.length=0
  .have aI:=List.eq_nil_of_length_eq_zero an
   have aK:Hid (cq (ps,rs) (bG s)=((ps,rs),[110,111,110,101])):=by
    show _=_;rw[HA.out,aI];rfl
   subst aI;obtain⟨d0,d1,g0,g1⟩:=l.out.r.a;obtain⟨N,O,_,_⟩:=l.out.p.a;clear HA ae ax an;go_wp2_with fail;exact bodyPost_ret (v:=.tuple #[.agg #[.slice pa ps pc,.slice ra rs rc],.string (bN [110,111,110,101])]) XE rfl (mq HI l aK.out)
  have a2:((f.length:Int)==0)=false:=Tf;have R:0<f.length:=Q0;obtain⟨E,F,aj,hv,ao,n⟩:=cN (aa H (Below.refl _ _)) R;obtain⟨rfl,rfl⟩:aY=some ⟨E,F,none⟩/\aD=aj:=RX;have C:Hid (m7 H.drew E F f[0]):=by rw[Nat.zero_mul,Nat.add_zero] at n;exact n
  have aP:Hid (jy ps f=[59,32].intercalate (f.map λi=>bG (dX ps i))):=by
   show _=_;unfold jy;rw[if_neg (by rintro rfl;simp at R)]
  have ad:=ae _ (List.getElem_mem R);have j:=Eh H.drew (.slice pa ps pc) ps f[0] l.out.a.d (iz HI.out.ok).name ad;have aA:Hid ((dX ps f[0]).size<=30):=by have:=vg (iz HI.out.ok).name ad;show _<=_;omega
  have av:Hid (bG (dX ps f[0])=[59,32].intercalate ((f.take 1).map λi=>bG (dX ps i))):=by
   show _=_;rw[List.take_one,List.head?_eq_getElem?,List.getElem?_eq_getElem R];simp[intercalate]
  have bi:(0:Int)<(f.length:Int):=Q0;clear hv n an ad ab;go_wp2_with fail;generalize dX ps f[0]=aU at*;generalize f[0]=i at*;refine wp_region_noPanic ?_;refine wp_region_held_drew (S:=λk=>cR k w.heap.size (.slice pa ps pc) (.slice ra rs rc)/\m7 k E F i) QX ⟨l.out.a.p,C.out⟩ (λhHeld=>?_);refine tk_ 0 ?_ rfl ?_ ?_;rotate_left
  .exact YB
  simp only[Act.put];refine tk_ 1 ?_ rfl ?_ ?_;rotate_left
  .exact YB
  simp only[Act.put];refine tk_ 2 ?_ rfl ?_ ?_;rotate_left
  .exact YB
  simp only[Act.put];refine tk_ 3 ?_ rfl ?_ ?_;rotate_left
  .exact YB
  simp only[Act.put];refine tk_ 4 ?_ rfl ?_ ?_;rotate_left
  .exact YB
  simp only[Act.put];refine rd_ 5 rfl λK hK=>?_;go_simp;refine j.mono ?_;clear j;rintro e J ⟨rfl,hb⟩;have X:=bK (l.out.a.b hb);have ag:Hid (Below H H J):=((Below.refl _ _).drew).trans hb;have q:=bK (m7.a H.drew _ _ _ _ hb ao C.out);clear hb;refine hK.out _ _ ⟨X.out.p,q.out⟩ (λhHeld=>?_);clear hK K;try simp only[sq_]
  refine rd_ 6 rfl λK hK=>?_;go_simp;refine hK.out _ _ ⟨X.out.p,q.out⟩ (λhHeld=>?_);clear hK K;try simp only[sq_]
  refine wpAnyH_done QX ?_ _;refine NoPanic.normal ?_;clear q;have aO:=hid_ λk (T:Below J J k)=>aa k (ag.out.trans (T.mono ag.out.size));clear C aa ag l a2;go_wp2_with fail;go_loopw [16,17] (λba ar wr=>∃(h:Nat) (x:ByteArray),(1<=h/\h<=f.length)/\ar=.int .i64 h/\ba=.string x/\x.size<=h*30/\Hid (bG x=[59,32].intercalate ((f.take h).map λi=>bG (dX ps i))/\Below J J wr)) (λ_ ar _=>f.length-(intOf ar).toNat)
  case atStart=>exact⟨1,_,⟨Q0,Q0⟩,rfl,rfl,by have:=aA.out;omega,av.out,Below.refl _ _⟩
  clear av aA;obtain⟨h,x,⟨bl,bj⟩,rfl,rfl,bh,A⟩:=hrel;have B:=bK (X.out.b A.out.2);have bn:=ax.out;by_cases ap:h<f.length
  .obtain⟨aZ,a0,aj,hv,ao,n⟩:=cN (aO wr A.out.2) ap;obtain⟨⟨rfl,rfl⟩,rfl⟩:(E=aZ/\F=a0)/\aD=aj:=RX;have bm:(h:Int)<(f.length:Int):=Q0;have bk:(0:Int)<=(h:Int):=Q0;have af:=ae _ (List.getElem_mem ap);have j:=Eh wr.drew (.slice pa ps pc) ps f[h] B.out.a.d (iz HI.out.ok).name af;have bo:=vg (iz HI.out.ok).name af
   have aR:Hid ([59,32].intercalate ((f.take (h+1)).map λi=>bG (dX ps i))=[59,32].intercalate ((f.take h).map λi=>bG (dX ps i))++[59,32]++bG (dX ps f[h])):=by
    show _=_;rw[List.take_add_one,List.getElem?_eq_getElem ap,Option.toList_some,List.map_append,map_cons,List.map_nil,yt,if_neg];intro e;exact ad4
   have C:Hid (m7 wr.drew E (F+h*4) f[h]):=n;have bp:¬9223372036854775807<x.size+2:=Q0;have bq:¬9223372036854775807<x.size+2+(dX ps f[h]).size:=Q0;clear hv n af;go_wp2_with fail;generalize dX ps f[h]=aU at*;generalize f[h]=i at*;refine wp_region_noPanic ?_;refine wp_region_held_drew (S:=λk=>cR k w.heap.size (.slice pa ps pc) (.slice ra rs rc)/\m7 k E (F+h*4) i) QX ⟨B.out.a.p,C.out⟩ (λhHeld=>?_);refine tk_ 0 ?_ rfl ?_ ?_;rotate_left
   .exact YB
   simp only[Act.put];refine tk_ 1 ?_ rfl ?_ ?_;rotate_left
   .exact YB
   simp only[Act.put];refine tk_ 2 ?_ rfl ?_ ?_;rotate_left
   .exact YB
   simp only[Act.put];refine tk_ 3 ?_ rfl ?_ ?_;rotate_left
   .exact YB
   simp only[Act.put];refine tk_ 4 ?_ rfl ?_ ?_;rotate_left
   .exact YB
   simp only[Act.put];refine tk_ 5 ?_ rfl ?_ ?_;rotate_left
   .exact YB
   simp only[Act.put];refine tk_ 6 ?_ rfl ?_ ?_;rotate_left
   .exact YB
   simp only[Act.put];refine tk_ 7 ?_ rfl ?_ ?_;rotate_left
   .exact YB
   simp only[Act.put];refine rd_ 8 rfl λK hK=>?_;go_simp;refine j.mono ?_;clear j;rintro e bf ⟨rfl,hb⟩;have Y:=bK (B.out.a.b hb);have aL:Hid (Below wr wr bf):=((Below.refl _ _).drew).trans hb;have q:=bK (m7.a wr.drew _ _ _ _ hb ao C.out);clear hb;refine hK.out _ _ ⟨Y.out.p,q.out⟩ (λhHeld=>?_);clear hK K;try simp only[sq_]
   refine rd_ 9 rfl λK hK=>?_;go_simp;refine hK.out _ _ ⟨Y.out.p,q.out⟩ (λhHeld=>?_);clear hK K;try simp only[sq_]
   refine rd_ 10 rfl λK hK=>?_;go_simp;refine hK.out _ _ ⟨Y.out.p,q.out⟩ (λhHeld=>?_);clear hK K;try simp only[sq_]
   refine wpAnyH_done QX ?_ _;refine NoPanic.normal ?_;clear q;go_wp2_with fail;go_roundw
   case rel=>
    refine⟨h+1,_,⟨Q0,Q0⟩,Rv,rfl,?_,?_,A.out.2.trans (aL.out.mono A.out.2.size)⟩
    .simp only[ByteArray.size_append];have bg:(⟨#[59,32]⟩:ByteArray).size=2:=rfl;omega
    rw[aR.out,<-A.out.1,d_,d_];rfl
   exact S6
  obtain rfl:h=f.length:=Q0
  have aN:Hid (x=bN (jy ps f)):=by
   show _=_;have:=A.out.1;rw[List.take_length,<-aP.out] at this;rw[<-this,gr]
  obtain⟨d0,d1,g0,g1⟩:=B.out.r.a;obtain⟨N,O,_,_⟩:=B.out.p.a;clear A;go_wp2_with fail;rw[aN.out];exact bodyPost_ret (v:=.tuple #[.agg #[.slice pa ps pc,.slice ra rs rc],.string (bN (jy ps f))]) XD rfl (mq HI B HA.out)
structure Gq (w:World) (pv rv:Value) (ps:List Prd) (rs:List Rul) (P:List Prd) (R:List Rul) (x:World) (B:Nat) (qv sv:Value):Prop where
 g:Gv w pv rv ps rs x
 q:cR x B (.slice none 0 0) (.slice none 0 0)
 b:w.heap.size+1<B
 hp:bR x qv P
 hr:ck x sv R
theorem Gq.a{v:World}{y A:Value}{x:List Prd}{z:List Rul}{j:List Prd}{l:List Rul}{t:World}{h:Nat}{m o:Option Addr}{n s:Nat}(i:Gq v y A x z j l t h (.slice m j n) (.slice o l s)):Gv v y A x z ((t.setCell h (.slice m j n)).setCell ⟨h,1,none⟩ (.slice o l s))/\cR ((t.setCell h (.slice m j n)).setCell ⟨h,1,none⟩ (.slice o l s)) h (.slice m j n) (.slice o l s)/\bR ((t.setCell h (.slice m j n)).setCell ⟨h,1,none⟩ (.slice o l s)) (.slice m j n) j/\ck ((t.setCell h (.slice m j n)).setCell ⟨h,1,none⟩ (.slice o l s)) (.slice o l s) l:=by
 have B:=i.b;have w:=(mX (k:=0) (u:=.slice m j n) i.q).a (mX (k:=1) (u:=.slice o l s) (i.q.c _));exact⟨⟨(i.g.p.d Q0).d Q0,(i.g.r.d Q0).d Q0,i.g.ps0,i.g.rs0,(i.g.below.setCell (p:=⟨h,0,none⟩) (by show v.heap.size<=h;omega) _).setCell (p:=⟨h,1,none⟩) (by show v.heap.size<=h;omega) _⟩,(i.q.c _).f _,qI w i.hp,qK w i.hr⟩
theorem NY{j:World}{y A:Value}{h:List Prd}{z l:List Rul}{g:World}{p:Nat}{i d:Value}(b:Gv j y A h z g/\cR g p i d/\bR g i h/\ck g d l)(x:kM d){m:dQ×List UInt8}{n:List UInt8}(w:m=((h,l),n)):mS j m (.returned (.tuple #[.agg #[i,d],.string (bN n)])) ((g.setCell ⟨j.heap.size+1,0,none⟩ i).setCell ⟨j.heap.size+1,1,none⟩ d):=by
 subst w;obtain⟨q,t,rfl,_⟩:=id b.2.2.1;obtain⟨s,v,rfl,_⟩:=id b.2.2.2;have o:=(mX (k:=0) (u:=.slice q h t) b.1.r).a (mX (k:=1) (u:=.slice s l v) (b.1.r.c _));exact⟨_,_,rfl,qI o b.2.2.1,qK o b.2.2.2,x,b.1.f _ _⟩
theorem NQ{w:World}{pa ra:Option Addr}{pc rc:Nat}{ps:List Prd}{rs:List Rul}{s:ByteArray}(I:aM w (.slice pa ps pc) (.slice ra rs rc) ps rs s)(U:aX s){ac r:List UInt8}{am:Bool}(hc:bY [32] (bG s)=(ac,r,am))(N:am=true/\ac=[100,114,111,112]):Calls prog 13 #[.agg #[.slice pa ps pc,.slice ra rs rc],.string s] w (mS w (cq (ps,rs) (bG s))):=by
 have HI:=bK I;have L:=bK (yD U (ps,rs));rw[hc] at L;simp only at L;have aC:=gj s [109,111,100,101,108];rw[decide_eq_false U.h0] at aC;have aD:=gj s [115,116,114,97,116,97];rw[decide_eq_false U.h1] at aD;have aE:=gj s [114,111,117,110,100,115];rw[decide_eq_false U.h2] at aE;have aF:=gj s [115,116,101,112,115];rw[decide_eq_false U.h3] at aF;obtain⟨ay,aq⟩:=ex_ ((w.alloc (.cells #[.slice pa ps pc,.slice ra rs rc] 30)).alloc (.cells #[.slice none 0 0,.slice none 0 0] 30));have ak:=bK (pi I aq);have ab:=lm ay s ⟨#[32]⟩ QY QY (by have:=I.few;omega)
 have aw:Hid (r.length<=4096):=by
  exact ZH
 rw[show bG (⟨#[32]⟩:ByteArray)=[32] from rfl,hc] at ab;simp only at ab;clear hc I U;obtain⟨Y,Z,_,_⟩:=ak.out.p.a;go_enter func13,ntmps13;go_wp2_with fail;clear aq;refine ab.mono ?_;clear ab Y Z;rintro e au ⟨rfl,hb⟩;have ad:=bK (ak.out.b hb);obtain⟨Y,Z,_,_⟩:=ad.out.p.a;obtain⟨ax,ah⟩:=ex_ (bN ac);have ai:∀aj,(ax.toList==aj)=decide (ac=aj):=λaj=>by rw[gj,<-ah,de]
 rw[ah];clear hb ah;obtain⟨rfl,N⟩:=N;have aH:=ai [97,115,107];have aI:=ai [100,114,111,112];rw[decide_eq_false (by rw[N];decide)] at aH;rw[decide_eq_true N] at aI;rw[if_neg (by rw[N];decide),if_pos ⟨rfl,N⟩] at L
 have k:Hid (∀g,Calls prog 51 #[.string (bN r)] g λe aG=>e=.returned (.int .i64 (kP r))/\Below g g aG):=λg=>by
  have:=OO g (bN r) (by rw[du];have:=aw.out;omega);rw[de] at this;exact this
 rw[OQ] at k;clear N ai;cases O:kn r with
 |none=>
  have HA:Hid (cq (ps,rs) (bG s)=((ps,rs),eY 1)):=by
   show _=_;rw[L.out,jT,O]
  rw[O] at k;have aL:¬(0:Int)<=(none:Option Int).getD (-1):=QY;generalize(none:Option Int).getD (-1)=aP at*;clear L O;go_wp2_with fail;refine mo_ (k au) λG hb=>?_;have J:=bK (ad.out.b hb);clear hb Y Z;go_wp2_with fail;refine wp_region_noPanic ?_;refine wp_region_held_drew (S:=λg=>cR g w.heap.size (.slice pa ps pc) (.slice ra rs rc)) QX J.out.a.p (λhHeld=>?_);refine tk_ 0 ?_ rfl ?_ ?_;rotate_left
  .exact Yx
  simp only[Act.put];refine tk_ 1 ?_ rfl ?_ ?_;rotate_left
  .exact Yx
  simp only[Act.put];refine rd_ 2 rfl λK hK=>?_;go_simp;refine mo_ (sO _ 1 Q0) λaJ hb=>?_;have HX:=bK (J.out.a.b hb);exact YA
 |some l=>
  have aB:=EP O;rw[O] at k
  have aa:Hid (cq (ps,rs) (bG s)=if eu ps rs l=0 then((ps,d7 rs l.toNat),[111,107]) else((ps,rs),eY (eu ps rs l))):=by
   show _=_;rw[L.out,jT,O]
  rw[show(some l).getD (-1)=l from rfl] at k;obtain⟨aN,aO⟩:=aB;clear L O;go_wp2_with fail;refine mo_ (k au) λG hb=>?_;have J:=bK (ad.out.b hb);clear hb Y Z;go_wp2_with fail;have M:=hid_ λg (ar:Gv w (.slice pa ps pc) (.slice ra rs rc) ps rs g)=>Ms g _ _ ps rs l Q0 ar.d ar.e (Ff HI.out.ok) HI.out.cap;generalize an:fN ps rs l=m at M;generalize ao:fg ps rs l=n at M;have af:=bK (And.intro an ao);clear an ao;refine wp_region_noPanic ?_;refine wp_region_held_drew (S:=λg=>cR g w.heap.size (.slice pa ps pc) (.slice ra rs rc)) QX J.out.a.p (λhHeld=>?_);refine tk_ 0 ?_ rfl ?_ ?_;rotate_left
  .exact Yx
  simp only[Act.put];refine tk_ 1 ?_ rfl ?_ ?_;rotate_left
  .exact Yx
  simp only[Act.put];refine wpAnyH_ready (rs:=[2,7]) QX Q1 ?_;refine AllReadyH.cons rfl (λK hK=>?A) ?B
  case' A=>
   go_simp;refine mo_ (k _) λH hb=>?_;have i:=bK (J.out.a.b hb);clear hb;refine hK.out _ _ i.out.p (λhHeld=>?_);clear hK K;try simp only[sq_]
   refine wpAnyH_ready (rs:=[3,7]) QX Q1 ?_;refine AllReadyH.cons rfl (λK hK=>?C) ?D
  case' C=>
   go_simp;refine(M _ i.out).mono ?_;rintro e o ⟨P,Q,R,T,rfl,E,F,z,hb⟩;have f:=bK (i.out.b hb);have h:=bK E;have x:=bK F;have ae:=bK z;clear hb E F z;refine hK.out _ _ f.out.p (λhHeld=>?_);clear hK K;try simp only[sq_]
   refine tk_ 4 ?_ rfl ?_ ?_;rotate_left
   .exact Yx
   simp only[Act.put];refine tk_ 5 ?_ rfl ?_ ?_;rotate_left
   .exact Yx
   simp only[Act.put];refine tk_ 6 ?_ rfl ?_ ?_;rotate_left
   .exact Yx
   simp only[Act.put];refine rd_ 7 rfl λK hK=>?_;go_simp;have t:=bK (show w.heap.size+1<o.heap.size from f.out.r.e);have hb:=bH o (.cells #[.slice none 0 0,.slice none 0 0] 30);have j:=bK (f.out.b hb);have u:Hid (cR (o.alloc (.cells #[.slice none 0 0,.slice none 0 0] 30)) o (.slice none 0 0) (.slice none 0 0)):=heap_alloc_new o _;clear hb;refine hK.out _ _ j.out.p (λhHeld=>?_);clear hK K;try simp only[sq_]
   have V:Hid (Gq w _ _ ps rs m n (o.alloc (.cells #[.slice none 0 0,.slice none 0 0] 30)) o (.slice P m Q) (.slice R n T)):=⟨j.out,u.out,t.out,bR.a (bH _ _) h.out,ck.a (bH _ _) x.out⟩;generalize o.alloc (.cells #[.slice none 0 0,.slice none 0 0] 30)=X at*;generalize o.heap.size=B at*;clear i f j u t h x
  case' D=>
   refine AllReadyH.cons rfl (λK hK=>?_) AllReadyH.nil;go_simp;have t:=bK (show w.heap.size+1<H.heap.size from i.out.r.e);have hb:=bH H (.cells #[.slice none 0 0,.slice none 0 0] 30);have f:=bK (i.out.b hb);have u:Hid (cR (H.alloc (.cells #[.slice none 0 0,.slice none 0 0] 30)) H (.slice none 0 0) (.slice none 0 0)):=heap_alloc_new H _;clear hb;refine hK.out _ _ f.out.p (λhHeld=>?_);clear hK K;try simp only[sq_]
   refine rd_ 3 rfl λK hK=>?_;go_simp;refine(M _ f.out).mono ?_;rintro e X ⟨P,Q,R,T,rfl,E,F,z,hb⟩;have j:=bK (f.out.b hb);have h:=bK E;have x:=bK F;have ae:=bK z;have W:=bK (u.out.b hb);clear hb E F z;refine hK.out _ _ j.out.p (λhHeld=>?_);clear hK K;try simp only[sq_]
   refine tk_ 4 ?_ rfl ?_ ?_;rotate_left
   .exact Yx
   simp only[Act.put];refine tk_ 5 ?_ rfl ?_ ?_;rotate_left
   .exact Yx
   simp only[Act.put];refine tk_ 6 ?_ rfl ?_ ?_;rotate_left
   .exact Yx
   simp only[Act.put];have V:Hid (Gq w _ _ ps rs m n X H (.slice P m Q) (.slice R n T)):=⟨j.out,W.out,t.out,h.out,x.out⟩;generalize H.heap.size=B at*;clear i f j u W t h x
  case' B=>
   refine AllReadyH.cons rfl (λK hK=>?_) AllReadyH.nil;go_simp;have t:=bK (show w.heap.size+1<G.drew.heap.size from J.out.a.r.e);have hb:=bH G.drew (.cells #[.slice none 0 0,.slice none 0 0] 30);have i:=bK (J.out.a.b hb);have u:Hid (cR (G.drew.alloc (.cells #[.slice none 0 0,.slice none 0 0] 30)) G.drew.heap.size (.slice none 0 0) (.slice none 0 0)):=heap_alloc_new G.drew _;clear hb;refine hK.out _ _ i.out.p (λhHeld=>?_);clear hK K;try simp only[sq_]
   refine rd_ 2 rfl λK hK=>?_;go_simp;refine mo_ (k _) λH hb=>?_;have f:=bK (i.out.b hb);have al:=bK (u.out.b hb);clear hb;refine hK.out _ _ f.out.p (λhHeld=>?_);clear hK K;try simp only[sq_]
   refine rd_ 3 rfl λK hK=>?_;go_simp;refine(M _ f.out).mono ?_;rintro e X ⟨P,Q,R,T,rfl,E,F,z,hb⟩;have j:=bK (f.out.b hb);have h:=bK E;have x:=bK F;have ae:=bK z;have W:=bK (al.out.b hb);clear hb E F z;refine hK.out _ _ j.out.p (λhHeld=>?_);clear hK K;try simp only[sq_]
   refine tk_ 4 ?_ rfl ?_ ?_;rotate_left
   .exact Yx
   simp only[Act.put];refine tk_ 5 ?_ rfl ?_ ?_;rotate_left
   .exact Yx
   simp only[Act.put];refine tk_ 6 ?_ rfl ?_ ?_;rotate_left
   .exact Yx
   simp only[Act.put];have V:Hid (Gq w _ _ ps rs m n X G (.slice P m Q) (.slice R n T)):=⟨j.out,W.out,t.out,h.out,x.out⟩;generalize G.heap.size=B at*;clear i f j u al W t h x
  all_goals
   refine rd_ 8 rfl λK hK=>?_;obtain⟨az,aA,g0,g1⟩:=V.out.q.a;go_simp;obtain⟨aK,ap⟩:=ex_ ((X.setCell B (.slice P m Q)).setCell ⟨B,1,none⟩ (.slice R n T));have y:=bK V.out.a;rw[ap] at y⊢;clear ap az aA g0 g1;refine hK.out _ _ y.out.1.p (λhHeld=>?_);clear hK K;try simp only[sq_]
   refine rd_ 9 rfl λK hK=>?_;go_simp;refine hK.out _ _ y.out.1.p (λhHeld=>?_);clear hK K;try simp only[sq_]
   refine wpAnyH_done QX ?_ _;refine NoPanic.normal ?_;clear V;obtain⟨h,ag⟩:=af.out;rcases yX HI.out.ok l with he|he
   .have HA:=aa.out;rw[he,if_pos rfl] at HA;obtain rfl:m=ps:=by rw[<-h,fN,if_pos he]
    rw[show d7 rs l.toNat=n by rw[<-ag,fg,if_pos he]] at HA;have av:=bK HA;clear HA aa h ag af M k;rw[he];obtain⟨Y,Z,_,_⟩:=y.out.2.1.a;obtain⟨d0,d1,g0,g1⟩:=y.out.1.r.a;clear he;go_wp2_with fail;exact bodyPost_ret (v:=.tuple #[.agg #[.slice P m Q,(.slice R n T)],.string (bN [111,107])]) XE rfl (NY y ae av.out)
   have HA:=aa.out;rw[he,if_neg QY] at HA;have HA:=bK HA;rw[he];clear aa h ag af M k he;go_wp2_with fail;refine wp_region_noPanic ?_;refine wp_region_held_drew (S:=λg=>cR g w.heap.size (.slice pa ps pc) (.slice ra rs rc)) QX y.out.1.a.p (λhHeld=>?_);refine tk_ 0 ?_ rfl ?_ ?_;rotate_left
   .exact Yx
   simp only[Act.put];refine tk_ 1 ?_ rfl ?_ ?_;rotate_left
   .exact Yx
   simp only[Act.put];refine tk_ 2 ?_ rfl ?_ ?_;rotate_left
   .exact Yx
   simp only[Act.put];refine rd_ 3 rfl λK hK=>?_;go_simp;refine mo_ (sO _ 7 Q0) λaJ hb=>?_;have HX:=bK (y.out.1.a.b hb);clear hb;refine hK.out _ _ HX.out.p (λhHeld=>?_);clear hK K;try simp only[sq_]
   refine rd_ 4 rfl λK hK=>?_;obtain⟨d0,d1,g0,g1⟩:=HX.out.r.a;go_simp;refine hK.out _ _ (HX.out.c _ _) (λhHeld=>?_);clear hK K;try simp only[sq_]
   refine rd_ 5 rfl λK hK=>?_;go_simp;refine hK.out _ _ (HX.out.c _ _) (λhHeld=>?_);clear hK K;try simp only[sq_]
   refine wpAnyH_done QX ?_ _;refine NoPanic.normal ?_;go_wp2_with fail;exact bodyPost_ret (v:=.tuple #[.agg #[.slice pa ps pc,.slice ra rs rc],.string (bN (eY 7))]) XD rfl (mq HI HX HA.out)
theorem NP(h:World)(o q:Value)(n:List Prd)(p:List Rul)(s:ByteArray)(a:aM h o q n p s):Calls prog 13 #[.agg #[o,q],.string s] h (mS h (cq (n,p) (bG s))):=by
 obtain⟨t,u,rfl,_⟩:=id a.hp;obtain⟨w,x,rfl,_⟩:=id a.hr;by_cases b:bG s=[109,111,100,101,108]
 .exact NR a b
 by_cases c:bG s=[115,116,114,97,116,97]
 .exact NV a b c
 by_cases f:bG s=[114,111,117,110,100,115]
 .exact NT a b c f
 by_cases j:bG s=[115,116,101,112,115]
 .exact NU a b c f j
 obtain⟨⟨m,v,i⟩,g⟩:∃r,bY [32] (bG s)=r:=⟨_,rfl⟩;have d:aX s:=⟨b,c,f,j⟩;by_cases k:i=true/\m=[97,115,107]
 .exact NO a d g k
 by_cases l:i=true/\m=[100,114,111,112]
 .exact NQ a d g l
 exact NS a d g k l
theorem Ob(l:List Nat):mU ⟨#[32]⟩ (l.map fj)=bN (fp l):=by
 unfold mU fp;rw[List.map_map];rfl
theorem OR(c:World)(g:Value)(l:List Nat)(j:dD c g l)(d:aT l)(k:aD c):Calls prog 34 #[.string ⟨#[32]⟩,g] c λe m=>e=.returned (.string (bN (fp l)))/\Below c c m:=by
 have:=yG c ⟨#[32]⟩ g l fj j d.few QY (λb f=>by have:=sw (n:=b) (by have:=d.low b f;omega);omega) (λb f h i=>Oa b (by have:=d.low b f;omega) h (k.a i));rw[Ob] at this;exact this
theorem sy(a:World)(b:Value)(l:List Nat)(f:dD a b l)(h:aT l)(i:aD a):Calls prog 11 #[b] a λe j=>e=.returned (.string (bN (fp l)))/\Below a a j:=by
 have c:=OR a b l f h i;obtain⟨k,m,rfl,_⟩:=f;go_enter func11,ntmps11;go_wp2_with fail;refine mo_ c λn d=>?_;have g:=bK d;clear d c;go_wp2_with fail;go_ret;exact⟨rfl,g.out⟩
structure al (w:World) (D:Nat) (x:dQ) (pv rv:Value):Prop where
 box:w.heap[D]? =some (.cells #[pv,rv] 38 (0,0))
 hp:bR w pv x.1
 hr:ck w rv x.2
 cap:kM rv
 ok:bP x.1 x.2=0
 low:∃w0,aD w0/\w0.heap.size<=D/\Below w0 w0 w
theorem al.c{b:World}{a:Nat}{h:dQ}{f g:Value}(d:al b a h f g):a<b.heap.size:=(Array.getElem?_eq_some_iff.1 d.box).1
theorem al.e{b:World}{c:Nat}{j:dQ}{h i:Value}(d:al b c j h i):aD b:=by
 obtain⟨k,f,_,g⟩:=d.low;exact f.a g
theorem yz{d f:World}{b:Nat}(g:∃a,aD a/\a.heap.size<=b/\Below a a d)(j:Below b d f):∃a,aD a/\a.heap.size<=b/\Below a a f:=by
 obtain⟨a,h,c,i⟩:=g;exact⟨a,h,c,i.trans (j.mono c)⟩
theorem al.b{h k:World}{g:Nat}{l:dQ}{i j:Value}(d:al h g l i j)(f:Below h h k):al k g l i j:=⟨(f.block g d.c).trans d.box,bR.a f d.hp,ck.a f d.hr,d.cap,d.ok,yz d.low (f.mono (Nat.le_of_lt d.c))⟩
theorem al.a{c:World}{b:Nat}{h:dQ}{d f:Value}(g:al c b h d f):c.cell? b=some d/\c.cell? ⟨b,1,none⟩=some f/\c.frozen? b=false/\c.frozen? ⟨b,1,none⟩=false:=by
 have:=g.box;simp[World.cell?,World.frozen?,this]
theorem al.d{j:World}{b:Nat}{a:dQ}{g i:Value}(c:al j b a g i):dU a.1:=λh f=>by have:=(iz c.ok).name h f;omega
def pg(w:World)(D:Nat)(L:dQ×List UInt8)(e:Ending)(w':World):Prop:=∃(T:List UInt8) (E:Nat) (pa:Option Addr) (pc:Nat) (ra:Option Addr) (rc:Nat),e=.returned (.tuple #[.string (bN T),E])/\(E<=100/\T.length<=4000/\(if E=0 then T else eY E)=L.2)/\al w' D L.1 (.slice pa L.1.1.length pc) (.slice ra L.1.2.length rc)/\Below D w w'
theorem qz{d n:World}{g:Nat}{f:dQ}{j l:Option Addr}{k m:Nat}(h:al d g f (.slice j f.1.length k) (.slice l f.2.length m))(i:Below d d n){a:List UInt8}(o:a.length<=4000):pg d g (f,a) (.returned (.tuple #[.string (bN a),.int .i64 0])) n:=
 ⟨a,0,j,k,l,m,rfl,⟨Q0,o,rfl⟩,h.b i,i.mono (Nat.le_of_lt h.c)⟩
theorem vb{a m:World}{f:Nat}{d:dQ}{i k:Option Addr}{j l:Nat}(g:al a f d (.slice i d.1.length j) (.slice k d.2.length l))(h:Below a a m){E:Nat}(n:E≠0)(o:E<=100):pg a f (d,eY E) (.returned (.tuple #[.string (bN []),E])) m:=
 ⟨[],E,i,j,k,l,rfl,⟨o,Q1,if_neg n⟩,g.b h,h.mono (Nat.le_of_lt g.c)⟩
theorem Nj(i:World)(j:Nat)(c:dQ)(z B:Option Addr)(A C:Nat)(f:al i j c (.slice z c.1.length A) (.slice B c.2.length C)):Calls prog 30 #[.pointer (some ⟨j,0,none⟩)] i (pg i j (c,fp (lX c))):=by
 have h:=bK f;obtain⟨l,m,_,_⟩:=f.a;go_enter func30,ntmps30;go_wp2_with fail;refine(Qr i _ _ c.1 c.2 f.hp f.hr f.d).mono ?_;rintro e E ⟨H,rfl,w,n⟩;rw[f.ok];have s:nP c.1 c.2=mx c.1 c.2:=by unfold nP;rw[if_neg (by rw[f.ok];simp)]
 rw[s] at w;obtain⟨F,G,rfl,_⟩:=w;have g:=bK (f.b n);have p:=bK n;clear l m f n s;obtain⟨l,m,_,_⟩:=g.out.a;go_wp2_with fail;refine(KM E _ _ c.1 c.2 g.out.hp g.out.hr g.out.d).mono ?_;rintro e x ⟨D,rfl,_,_,u⟩;have t:mO c.1 c.2=dA c.1 c.2 (cC (bM c.1 c.2)):=by unfold mO;rw[if_neg (by rw[g.out.ok];simp)]
 rw[t,g.out.ok];have k:=bK (p.out.trans (u.mono p.out.size));have o:=bH x (.cells #[.int .i64 ((mx c.1 c.2).length:Nat),.int .i64 (dA c.1 c.2 (cC (bM c.1 c.2)):Nat)] 3);have r:=sy _ _ (lX c) (vD x (mx c.1 c.2).length (dA c.1 c.2 (cC (bM c.1 c.2)))) (sI h.out.ok) ((h.out.e.a k.out).a o);have q:=bK (k.out.trans (o.mono k.out.size));clear l m t u o;go_wp2_with fail;refine mo_ r λI v=>?_;have y:=bK (q.out.trans (v.mono q.out.size));clear v r;go_wp2_with fail;exact bodyPost_ret (v:=.tuple #[.string (bN (fp (lX c))),.int .i64 0]) (by simp[results,results30,go_sem]) rfl (qz h y (qC (sI h.out.ok)))
