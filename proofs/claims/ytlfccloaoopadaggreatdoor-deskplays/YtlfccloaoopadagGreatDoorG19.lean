import Derived.Test.YtlfccloaoopadagGreatDoorG2
import Derived.Test.YtlfccloaoopadagGreatDoorG14
import Derived.Test.YtlfccloaoopadagGreatDoorG17
import Derived.Test.YtlfccloaoopadagGreatDoorG20
open Go.Proofs.Tryz
set_option maxRecDepth 100000
set_option maxHeartbeats 0
open Go.World (cell? frozen? size_alloc)
open List (append_nil cons_append drop_one intercalate length_append length_drop length_eq_zero_iff length_map length_nil length_singleton map_map mem_append mem_singleton not_mem_nil replicate setIfInBounds_toArray set_cons_succ set_cons_zero)
open Nat (le_of_lt le_refl zero_add zero_le)
open Option (bind_none getD_none getD_some isSome_none isSome_some map_none map_some)
open Or (inl)
open ByteArray (size_append)
namespace Go.Proofs.YtlfccloaoopadagGreatDoor
open Go.ChangeShapes Go.WideShapes Go.ChangeAt Go.RowKit
variable{p:Prop}
theorem N9(a:World)(b s)(c:cu a b s):Calls prog 18 #[.pointer (some ⟨b,0,none⟩)] a λe k=>e=.returned (.bool (jV s))/\k=a:=by
 have h:=x8 a b s ⟨#[112,114,101,100,32]⟩ c;have i:=x8 a b s ⟨#[112,114,101,100,32,61]⟩ c;have j:=x8 a b s ⟨#[112,114,101,100,32,58]⟩ c;have HE:Hid (jV s=((bT (bG ⟨#[112,114,101,100,32]⟩) s).isSome&& !(bT (bG ⟨#[112,114,101,100,32,61]⟩) s).isSome&& !(bT (bG ⟨#[112,114,101,100,32,58]⟩) s).isSome)):=rfl;generalize(bT (bG ⟨#[112,114,101,100,32]⟩) s).isSome=d at*;generalize(bT (bG ⟨#[112,114,101,100,32,61]⟩) s).isSome=f at*;generalize(bT (bG ⟨#[112,114,101,100,32,58]⟩) s).isSome=g at*;cases d<;>cases f<;>cases g
 all_goals
  go_enter func18,ntmps18;go_wp2_with(go_at_call 62;first|(with_reducible refine mq_ h ?_)|(with_reducible refine mq_ i ?_)|(with_reducible refine mq_ j ?_));go_ret;exact⟨RZ,rfl⟩
def jc(w:World)(b:Nat)(x y z:Value):Prop:=w.heap[b]? =some (.cells #[x,y,z] 51 (0,0))
theorem jc.a{c b}{f g:World}{h i j}(d:jc f b h i j)(k:Ate c f g)(l:b≠c):jc g b h i j:=(k.e l (Array.getElem?_eq_some_iff.1 d).1).trans d
theorem ad7(h:p:=by simp[cell?,frozen?,h]):p:=h
theorem jc.b{a}{c:World}{d f g}(h:jc c a d f g):c.cell? a=some d/\c.cell? ⟨a,1,none⟩=some f/\c.cell? ⟨a,2,none⟩=some g/\c.frozen? a=false/\c.frozen? ⟨a,1,none⟩=false/\c.frozen? ⟨a,2,none⟩=false:=by
 unfold jc at h;exact ad7
theorem jc.d{a}{c:World}{i f g}(h:jc c a i f g)(b):jc (c.setCell a b) a b f g:=heap_setCell_same c a 0 _ _ b h
theorem jc.e{a}{c:World}{d h f}(g:jc c a d h f)(b):jc (c.setCell ⟨a,1,none⟩ b) a d b f:=heap_setCell_same c a 1 _ _ b g
theorem jc.f{a}{c:World}{d g i}(h:jc c a d g i)(b):jc (c.setCell ⟨a,2,none⟩ b) a d g b:=heap_setCell_same c a 2 _ _ b h
theorem jc.c{a b k}{d:World}{f g h l}(i:jc d a f g h)(j:b≠a):jc (d.setCell ⟨b,k,none⟩ l) a f g h:=by
 unfold jc;rw[h_ j];exact i
theorem bK{p:Prop}(a:p):Hid p:=a
theorem oC(b:World)(a s p)(c:cu b a s):Calls prog 63 #[.pointer (some ⟨a,0,none⟩),.string ⟨p.toArray⟩] b (gD a b ((bT p s).map λd=>((),d)) λ_ f _=>f=.tuple #[]):=by
 have:=EM b a s (bN p) c;rw[de] at this;exact this
theorem Zo(h:p:=by
 clear he
 go_wp2_with fail
 exact⟨rfl,ft HN (HA.out.a ha.out)⟩):p:=h
theorem E4(n:World)(o s)(ab:cu n o s)(ac:s.length<=140737488355328):Calls prog 19 #[.pointer (some ⟨o,0,none⟩)] n (gD o n (e8 s) λad p _=>p=fS ad):=by
 have v:=iy ab;have k:=hid_ ac;obtain⟨y,Q⟩:=ex_ ((n.alloc (.cells #[.string ⟨#[]⟩,.int .i64 0,.int .i64 0] 51)).alloc (.cells #[.string ⟨#[]⟩,.int .i64 0,.int .i64 0] 51));have O:Hid (Below n n y):=by rw[<-Q];exact(bH _ _).alloc Q1 _
 have HA:Hid (Ate o n y):=Ate.c O Q0;have i:=hid_ (ji ab O.out)
 have l:Hid (jc y n (.string ⟨#[]⟩) (.int .i64 0) (.int .i64 0)):=by
  rw[<-Q];exact(Below.block (bH _ _) _ Q1).trans (heap_alloc_new n _)
 have j:Hid (jc y (n.heap.size+1) (.string ⟨#[]⟩) (.int .i64 0) (.int .i64 0)):=by
  have:=heap_alloc_new (n.alloc (.cells #[.string ⟨#[]⟩,.int .i64 0,.int .i64 0] 51)) (.cells #[.string ⟨#[]⟩,.int .i64 0,.int .i64 0] 51);rw[size_alloc,Q] at this;exact this
 clear O ac;go_enter func19,ntmps19;have m:=oC y o s kS i.out;go_wp2_with fail;refine m.mono ?_;clear m;intro e ae g;cases he:bT kS s with
 |none=>
  rw[he] at g;rw[map_none] at g;obtain⟨rfl,ha⟩:=g.b;have HN:Hid (e8 s=none):=(by show _=_;simp only[e8,he,bind_none]);exact Zo
 |some w=>
  rw[he,map_some] at g;obtain⟨p,rfl,rfl,h⟩:=g.a;clear g;have q:=hid_ he;clear he;have t:Hid (w.length<=140737488355328):=by show _<=_;have:=fU q.out;have:=k.out;omega
  clear k;rename Hid (w.length<=140737488355328)=>k;replace l:=bK (l.out.a h.out.2 Q0);replace j:=bK (j.out.a h.out.2 Q0);replace HA:=bK (HA.out.a h.out.2);clear i;have i:=hid_ h.out.1;clear h;have m:=EN ae o w i k.out;go_wp2_with fail;refine m.mono ?_;clear m;intro e af g;cases he:f8 eP w with
  |none=>
   rw[he] at g;obtain⟨rfl,ha⟩:=g.b;have HN:Hid (e8 s=none):=(by show _=_;simp only[e8,q.out,he,Option.bind_some,bind_none]);exact Zo
  |some S=>
   obtain⟨J,z⟩:=S;rw[he] at g;obtain⟨p,rfl,rfl,h⟩:=g.a;clear g;have r:=hid_ he;clear he;have t:Hid (z.length<=140737488355328):=by show _<=_;have:=congrArg List.length (iQ r.out).1;rw[length_append] at this;have:=k.out;omega
   clear k;rename Hid (z.length<=140737488355328)=>k;replace l:=bK (l.out.a h.out.2 Q0);replace j:=bK (j.out.a h.out.2 Q0);replace HA:=bK (HA.out.a h.out.2);clear i;have i:=hid_ h.out.1;clear h;obtain⟨U,V,W,X,Y,Z⟩:=j.out.b;obtain⟨D,G⟩:=ex_ (af.setCell ⟨n.heap.size+1,0,none⟩ (.string (bN J)));replace l:Hid (jc D n (.string ⟨#[]⟩) (.int .i64 0) (.int .i64 0)):=by rw[<-G];exact l.out.c Q0
   replace j:=bK (j.out.d (.string (bN J)));rw[G] at j;replace HA:Hid (Ate o n D):=by rw[<-G];exact gE HA Q0 v
   replace i:Hid (cu D o z):=by rw[<-G];exact fP i Q0
   have m:=oC D o z [32] i.out;go_wp2_with fail;refine m.mono ?_;clear m;intro e ag g;cases he:bT [32] z with
   |none=>
    rw[he] at g;rw[map_none] at g;obtain⟨rfl,ha⟩:=g.b;have HN:Hid (e8 s=none):=(by show _=_;simp only[e8,q.out,r.out,he,Option.bind_some,bind_none]);exact Zo
   |some M=>
    rw[he,map_some] at g;obtain⟨p,rfl,rfl,h⟩:=g.a;clear g;have u:=hid_ he;clear he;have t:Hid (M.length<=140737488355328):=by show _<=_;have:=fU u.out;have:=k.out;omega
    clear k;rename Hid (M.length<=140737488355328)=>k;replace l:=bK (l.out.a h.out.2 Q0);replace j:=bK (j.out.a h.out.2 Q0);replace HA:=bK (HA.out.a h.out.2);clear i;have i:=hid_ h.out.1;clear h;have m:=qE ag o M i k.out;go_wp2_with fail;refine m.mono ?_;clear m;intro e ah g;cases he:ek M with
    |none=>
     rw[he] at g;obtain⟨rfl,ha⟩:=g.b;have HN:Hid (e8 s=none):=(by show _=_;simp only[e8,q.out,r.out,u.out,he,Option.bind_some,bind_none]);exact Zo
    |some al=>
     obtain⟨K,A⟩:=al;rw[he] at g;obtain⟨p,rfl,rfl,h⟩:=g.a;clear g;have x:=hid_ he;clear he;have t:Hid (A.length<=140737488355328):=by show _<=_;obtain⟨_,R,_⟩:=ms x.out;have:=congrArg List.length (iQ R).1;rw[length_append] at this;have:=k.out;omega
     clear k;rename Hid (A.length<=140737488355328)=>k;replace l:=bK (l.out.a h.out.2 Q0);replace j:=bK (j.out.a h.out.2 Q0);replace HA:=bK (HA.out.a h.out.2);clear i;have i:=hid_ h.out.1;clear h;obtain⟨U,V,W,X,Y,Z⟩:=j.out.b;obtain⟨E,H⟩:=ex_ (ah.setCell ⟨n.heap.size+1,1,none⟩ K);replace l:Hid (jc E n (.string ⟨#[]⟩) (.int .i64 0) (.int .i64 0)):=by rw[<-H];exact l.out.c Q0
     replace j:=bK (j.out.e K);rw[H] at j;replace HA:Hid (Ate o n E):=by rw[<-H];exact gE HA Q0 v
     replace i:Hid (cu E o A):=by rw[<-H];exact fP i Q0
     have m:=oC E o A [32] i.out;go_wp2_with fail;refine m.mono ?_;clear m;intro e ai g;cases he:bT [32] A with
     |none=>
      rw[he] at g;rw[map_none] at g;obtain⟨rfl,ha⟩:=g.b;have HN:Hid (e8 s=none):=(by show _=_;simp only[e8,q.out,r.out,u.out,x.out,he,Option.bind_some,bind_none]);exact Zo
     |some N=>
      rw[he,map_some] at g;obtain⟨p,rfl,rfl,h⟩:=g.a;clear g;have C:=hid_ he;clear he;have t:Hid (N.length<=140737488355328):=by show _<=_;have:=fU C.out;have:=k.out;omega
      clear k;rename Hid (N.length<=140737488355328)=>k;replace l:=bK (l.out.a h.out.2 Q0);replace j:=bK (j.out.a h.out.2 Q0);replace HA:=bK (HA.out.a h.out.2);clear i;have i:=hid_ h.out.1;clear h;have m:=qE ai o N i k.out;go_wp2_with fail;refine m.mono ?_;clear m;intro e aj g;cases he:ek N with
      |none=>
       rw[he] at g;obtain⟨rfl,ha⟩:=g.b;have HN:Hid (e8 s=none):=(by show _=_;simp only[e8,q.out,r.out,u.out,x.out,C.out,he,Option.bind_some,bind_none]);exact Zo
      |some am=>
       obtain⟨L,B⟩:=am;rw[he] at g;obtain⟨p,rfl,rfl,h⟩:=g.a;clear g;have P:=hid_ he;clear he;have t:Hid (B.length<=140737488355328):=by show _<=_;obtain⟨_,R,_⟩:=ms P.out;have:=congrArg List.length (iQ R).1;rw[length_append] at this;have:=k.out;omega
       clear k;rename Hid (B.length<=140737488355328)=>k;replace l:=bK (l.out.a h.out.2 Q0);replace j:=bK (j.out.a h.out.2 Q0);replace HA:=bK (HA.out.a h.out.2);clear i;have i:=hid_ h.out.1;clear h;obtain⟨U,V,W,X,Y,Z⟩:=j.out.b;obtain⟨F,I⟩:=ex_ (aj.setCell ⟨n.heap.size+1,2,none⟩ L);replace l:Hid (jc F n (.string ⟨#[]⟩) (.int .i64 0) (.int .i64 0)):=by rw[<-I];exact l.out.c Q0
       replace j:=bK (j.out.f L);rw[I] at j;replace HA:Hid (Ate o n F):=by rw[<-I];exact gE HA Q0 v
       replace i:Hid (cu F o B):=by rw[<-I];exact fP i Q0
       have m:=oC F o B [10] i.out;go_wp2_with fail;refine m.mono ?_;clear m;intro e aq g;cases he:bT [10] B with
       |none=>
        rw[he] at g;rw[map_none] at g;obtain⟨rfl,ha⟩:=g.b;have HN:Hid (e8 s=none):=(by show _=_;simp only[e8,q.out,r.out,u.out,x.out,C.out,P.out,he,Option.bind_some,bind_none]);exact Zo
       |some T=>
        rw[he,map_some] at g;obtain⟨p,rfl,rfl,h⟩:=g.a;clear g;have aa:=hid_ he;clear he;have t:Hid (T.length<=140737488355328):=by show _<=_;have:=fU aa.out;have:=k.out;omega
        clear k;rename Hid (T.length<=140737488355328)=>k;replace l:=bK (l.out.a h.out.2 Q0);replace j:=bK (j.out.a h.out.2 Q0);replace HA:=bK (HA.out.a h.out.2);clear i;have i:=hid_ h.out.1;clear h;have HN:Hid (e8 s=some (⟨bN J,K,L⟩,T)):=(by show _=_;simp only[e8,q.out,r.out,u.out,x.out,C.out,P.out,aa.out,Option.bind_some];rfl);obtain⟨ak,w,S,an,ao,ap⟩:=l.out.b;obtain⟨U,V,W,X,Y,Z⟩:=j.out.b;go_wp2_with fail;exact bodyPost_ret (v:=fS ⟨bN J,K,L⟩) (by simp[results,results19,go_sem,ak,w,S,fS]) rfl (lU HN (gE (gE (gE HA (le_refl _) v) (le_refl _) v) (le_refl _) v) rfl (fP (fP (fP i Q0) Q0) Q0))
theorem Ql{n}(b:0<=n)(g:n<9223372036854775808):IntKind.i64.wrap n=n:=by
 have d:(2:Int)^64=18446744073709551616:=QY;have f:(2:Int)^63=9223372036854775808:=QY;have c:n% (2:Int)^64=n:=Int.emod_eq_of_lt b Q0;show(if(true&&decide (n% (2:Int)^64>=(2:Int)^63))=true then n% (2:Int)^64-(2:Int)^64 else n% (2:Int)^64)=n;rw[if_neg,c];intro a;rw[Bool.true_and] at a;have h:=of_decide_eq_true a;omega
theorem MQ(b a n):bG (b.extract a (a+n))=((bG b).drop a).take n:=by
 unfold bG;rw[ByteArray.data_extract,Array.toList_extract,List.extract_eq_take_drop,Nat.add_sub_cancel_left]
theorem Ny{p s}(a:s.take p.length=p):bT p s=some (s.drop p):=gi.2 (by
 have:=List.take_append_drop p s
 rw[a] at this
 exact this.symm)
theorem Nz{p s}(a:s.take p.length≠p):bT p s=none:=by
 cases e:bT p s with
 |none=>rfl
 |some b=>
  have:=gi.1 e;rw[this] at a;simp at a
theorem Ys(h:p:=by (intro w hSw;go_simp;try with_reducible rfl)):p:=h
theorem lm(w:World)(s p)(B:0<p.size)(C:p.size<=100)(D:s.size<=100000):Calls prog 35 #[.string s,.string p] w λe r=>e=.returned (.tuple #[.string (bN (bY (bG p) (bG s)).1),.string (bN (bY (bG p) (bG s)).2.1),.bool (bY (bG p) (bG s)).2.2])/\Below w w r:=by
 have l:Hid (bG p≠[]):=by intro b;have:=cD p;rw[b] at this;simp at this;omega
 go_enter func35,ntmps35;go_wp2_with fail;go_loop [7] (λc=>∃a:Nat,c=.int .i64 a/\a<=s.size+1/\Hid (∀d,d<a->bT (bG p) ((bG s).drop d)=none)) (λc=>s.size+1-(intOf c).toNat)
 case atStart=>exact⟨0,rfl,Q0,λd k=>Q0⟩
 obtain⟨a,rfl,x,h⟩:=hrel;by_cases A:a+p.size<=s.size
 .have q:(a:Int)+(p.size:Int)<=(s.size:Int):=Q0;have y:(a:Int)<=(a:Int)+(p.size:Int):=Q0;have z:(a:Int)<=(s.size:Int):=Q0;have F:IntKind.i64.wrap ((a:Int)+(p.size:Int))=(a:Int)+(p.size:Int):=Ql Q0 Q0;have u:(0:Int)<=(a:Int)+(p.size:Int):=Q0;have E:((a:Int)+(p.size:Int)).toNat=a+p.size:=Q0;have i:bG (s.extract a (a+p.size))=((bG s).drop a).take (bG p).length:=by rw[MQ,cD]
  by_cases f:((bG s).drop a).take (bG p).length=bG p
  .have j:=Ny f;rw[List.drop_drop,cD] at j;have g:=bK (Ea l h j);have o:((s.extract a (a+p.size)).toList==p.toList)=true:=by rw[nM,i,f];simp
   clear j f i h;go_wp2_with fail;refine wp_region_noPanic ?_;refine wp_region_held_drew (S:=(λt:World=>Below w w t)) QX ((Below.refl _ _).drew) (λn=>?_);change wpAnyH _ _ _ _ _ _ #[false,false,false,false,false,false,false,false,false,false,false,false] _ _;refine lY (i:=0) (v:=?_) rfl SS QX QX QX (λ_ _ _ b=>b) (inl ⟨SS,?_⟩) Q7 ?_;rotate_left
   .exact Ys
   simp only[setIfInBounds_toArray,set_cons_zero,set_cons_succ];change wpAnyH _ _ _ _ _ _ #[true,false,false,false,false,false,false,false,false,false,false,false] _ _;refine lY (i:=1) (v:=?_) rfl SS QX QX QX (λ_ _ _ b=>b) (inl ⟨SS,?_⟩) Q7 ?_;rotate_left
   .exact Ys
   simp only[setIfInBounds_toArray,set_cons_zero,set_cons_succ];change wpAnyH _ _ _ _ _ _ #[true,true,false,false,false,false,false,false,false,false,false,false] _ _;refine lY (i:=2) (v:=?_) rfl SS QX QX QX (λ_ _ _ b=>b) (inl ⟨SS,?_⟩) Q7 ?_;rotate_left
   .exact Ys
   simp only[setIfInBounds_toArray,set_cons_zero,set_cons_succ];change wpAnyH _ _ _ _ _ _ #[true,true,true,false,false,false,false,false,false,false,false,false] _ _;refine lY (i:=3) (v:=?_) rfl SS QX QX QX (λ_ _ _ b=>b) (inl ⟨SS,?_⟩) Q7 ?_;rotate_left
   .exact Ys
   simp only[setIfInBounds_toArray,set_cons_zero,set_cons_succ];change wpAnyH _ _ _ _ _ _ #[true,true,true,true,false,false,false,false,false,false,false,false] _ _;refine lY (i:=4) (v:=?_) rfl SS QX QX QX (λ_ _ _ b=>b) (inl ⟨SS,?_⟩) Q7 ?_;rotate_left
   .exact Ys
   simp only[setIfInBounds_toArray,set_cons_zero,set_cons_succ];change wpAnyH _ _ _ _ _ _ #[true,true,true,true,true,false,false,false,false,false,false,false] _ _;refine lY (i:=5) (v:=?_) rfl SS QX QX QX (λ_ _ _ b=>b) (inl ⟨SS,?_⟩) Q7 ?_;rotate_left
   .exact Ys
   simp only[setIfInBounds_toArray,set_cons_zero,set_cons_succ];change wpAnyH _ _ _ _ _ _ #[true,true,true,true,true,true,false,false,false,false,false,false] _ _;refine lY (i:=6) (v:=?_) rfl SS QX QX QX (λ_ _ _ b=>b) (inl ⟨SS,?_⟩) Q7 ?_;rotate_left
   .exact Ys
   simp only[setIfInBounds_toArray,set_cons_zero,set_cons_succ];change wpAnyH _ _ _ _ _ _ #[true,true,true,true,true,true,true,false,false,false,false,false] _ _;refine lY (i:=7) (v:=?_) rfl SS QX QX QX (λ_ _ _ b=>b) (inl ⟨SS,?_⟩) Q7 ?_;rotate_left
   .exact Ys
   simp only[setIfInBounds_toArray,set_cons_zero,set_cons_succ];change wpAnyH _ _ _ _ _ _ #[true,true,true,true,true,true,true,true,false,false,false,false] _ _;refine lY (i:=8) (v:=?_) rfl SS QX QX QX (λ_ _ _ b=>b) (inl ⟨SS,?_⟩) Q7 ?_;rotate_left
   .exact Ys
   simp only[setIfInBounds_toArray,set_cons_zero,set_cons_succ];change wpAnyH _ _ _ _ _ _ #[true,true,true,true,true,true,true,true,true,false,false,false] _ _;refine lY (i:=9) (v:=?_) rfl SS QX QX QX (λ_ _ _ b=>b) (inl ⟨SS,?_⟩) Q7 ?_;rotate_left
   .exact Ys
   simp only[setIfInBounds_toArray,set_cons_zero,set_cons_succ];change wpAnyH _ _ _ _ _ _ #[true,true,true,true,true,true,true,true,true,true,false,false] _ _;refine lY (i:=10) (v:=?_) rfl SS QX QX QX (λ_ _ _ b=>b) (inl ⟨SS,?_⟩) Q7 ?_;rotate_left
   .exact Ys
   simp only[setIfInBounds_toArray,set_cons_zero,set_cons_succ];change wpAnyH _ _ _ _ _ _ #[true,true,true,true,true,true,true,true,true,true,true,false] _ _;refine lY (i:=11) (v:=?_) rfl SS QX QX QX (λ_ _ _ b=>b) (inl ⟨SS,?_⟩) Q7 ?_;rotate_left
   .exact Ys
   simp only[setIfInBounds_toArray,set_cons_zero,set_cons_succ];change wpAnyH _ _ _ _ _ _ #[true,true,true,true,true,true,true,true,true,true,true,true] _ _;refine wpAnyH_done QX ?_ _;refine NoPanic.normal ?_;go_wp2_with fail;exact bodyPost_ret (v:=.tuple #[.string (s.extract 0 a),.string (s.extract (a+p.size) s.size),.bool true]) (by simp[results,results35,go_sem]) rfl ⟨by rw[g.out];simp only;rw[<-qy,<-mn,gr,gr],n⟩
  have g:Hid (∀d,d<a+1->bT (bG p) ((bG s).drop d)=none):=λd k=>by
   by_cases e:d=a
   .subst e;exact Nz f
   exact h d Q0
  have o:((s.extract a (a+p.size)).toList==p.toList)=false:=by rw[nM,i];simp[f]
  clear f i h;go_wp2_with fail;go_round
  case rel=>exact⟨a+1,Rv,Q0,g⟩
  exact S6
 have q:¬(a:Int)+(p.size:Int)<=(s.size:Int):=Q0
 have g:Hid (bY (bG p) (bG s)=(bG s,[],false)):=Eb λd k=>by
  by_cases e:d<a
  .exact h d e
  cases m:bT (bG p) ((bG s).drop d) with
  |none=>rfl
  |some G=>
   have:=fU m;rw[length_drop,cD,cD] at this;omega
 go_wp2_with fail;exact bodyPost_ret (v:=.tuple #[.string s,.string ⟨#[]⟩,.bool false]) (by simp[results,results35,go_sem]) rfl ⟨by rw[g.out];simp only;rw[gr];rfl,Below.refl _ _⟩
theorem Fe:∀(b:List UInt8) (a:UInt8) (n:Int),dV (b++[a]) n=10*dV b n+((a.toNat:Int)-48)
 |[],a,n=>rfl
 |c::b,a,n=>by rw[cons_append,dV,dV,Fe b a]
theorem OX:∀a:Nat,a<=6->(1:Int)<=10^a/\(10:Int)^a<=1000000:=by
 intro a d;have c:∀b:Fin 7,(1:Int)<=10^b.val/\(10:Int)^b.val<=1000000:=QY;exact c ⟨a,Q0⟩
theorem oI(i:World)(s)(D:s.size<=100000):Calls prog 36 #[.string s] i λe q=>e=.returned (.int .i64 (dE (bG s)))/\q=i:=by
 have c:=et (s.size:Int) 1 6 i;by_cases f:1<=s.size/\s.size<=6
 .have HE:Hid (dE (bG s)=dV (bG s) 0):=by show _=_;unfold dE;rw[cD,if_pos f]
  rw[show bQ (s.size:Int) 1 6=true by simp[bQ];omega] at c;obtain⟨f,r⟩:=f;go_enter func36,ntmps36;go_wp2_with(go_at_call 87;refine mq_ c ?_);rename_i w1;clear c;go_loop [3,4] (λp h=>∃(a:Nat) (b:Int),a<=s.size/\h=.int .i64 a/\p=.int .i64 b/\(b<=300*(10:Int)^a-100/\ -(300*(10:Int)^a-100)<=b)/\Hid (b=dV ((bG s).take a) 0)) (λ_ h=>s.size-(intOf h).toNat)
  case atStart=>exact⟨0,0,zero_le _,rfl,rfl,⟨by rw[Int.pow_zero];omega,by rw[Int.pow_zero];omega⟩,rfl⟩
  obtain⟨a,b,v,rfl,rfl,k,j⟩:=hrel;by_cases hlt:a<s.size
  .have x:(a:Int)<(s.size:Int):=Q0;have w:(0:Int)<=(a:Int):=Q0;have l:=OX a Q0;obtain⟨d,g⟩:∃d:Int,(10:Int)^a=d:=⟨_,rfl⟩;have C:1<=d/\d<=1000000:=by rw[<-g];exact l
   have o:Hid ((10:Int)^(a+1)=10*d):=by show _=_;rw[Int.pow_succ,g];omega
   rw[g] at k
   have m:Hid (dV ((bG s).take (a+1)) 0=10*b+((s[a].toNat:Int)-48)):=by
    show _=_;rw[List.take_succ_eq_append_getElem SY,Fe,<-j.out,lP hlt]
   have t:(s[a].toNat:Int)<=255:=by have:=s[a].toNat_lt;omega
   have u:(0:Int)<=(s[a].toNat:Int):=Q0;obtain⟨y,z⟩:=k;have A:b<=300000000:=Q0;have B: -300000000<=b:=Q0;clear g l;go_wp2_with fail;go_round
   case rel=>exact⟨a+1,10*b+(s[a].toNat:Int)-48,Q0,Rv,rfl,by rw[o.out];omega,by rw[m.out];show _=_;omega⟩
   exact S6
  obtain rfl:a=s.size:=Q0
  have n:Hid (b=dE (bG s)):=by
   show _=_;rw[HE.out,j.out,<-cD,List.take_length]
  go_wp2_with fail;go_ret;exact⟨eJ n.out,rfl⟩
 have HE:Hid (dE (bG s)=0):=by show _=_;unfold dE;rw[cD,if_neg f]
 rw[show bQ (s.size:Int) 1 6=false by simp[bQ];omega] at c;go_enter func36,ntmps36;go_wp2_with(go_at_call 87;refine mq_ c ?_);go_ret;exact⟨RZ,rfl⟩
theorem Te(h:p:=by simp[results,results138,go_sem]):p:=h
theorem Tf(h:p:=by rw[beq_eq_false_iff_ne];omega):p:=h
theorem afg(h:p:=by
 generalize dE (bG s)=n at*
 go_enter func138,ntmps138
 go_wp2_with(go_at_call 36;refine mo_ HC λw1 hw1=>?_;obtain rfl:=hw1.symm)
 exact bodyPost_ret (v:=.agg #[.bool false,n]) Te rfl ⟨rfl,bH _ _⟩):p:=h
theorem yT(c:World)(s)(i:s.size<=100000):Calls prog 138 #[.string s] c λe o=>e=.returned (.agg #[.bool (cJ (bG s)).var,.int .i64 (cJ (bG s)).n])/\Below c c o:=by
 have a:=cD s;by_cases f:s.size=1
 .have j:0<s.size:=Q0;have k:(s.size:Int)=1:=Q0
  have g:(bG s).headD 0=s[0]:=by
   obtain⟨d,h⟩:∃d,bG s=[d]:=by
    match hbs:bG s,a with
    |[d],_=>exact⟨d,rfl⟩
    |[],a=>simp at a;omega
    |_::_::_,a=>simp at a;omega
   have:=lP j;simp only[h] at this⊢;exact this
  by_cases l:65<=s[0].toNat
  .have b:Hid (cJ (bG s)=⟨true,(s[0].toNat:Int)-65⟩):=by
    show _=_;unfold cJ;rw[a,g,if_pos ⟨f,l⟩]
   have m:(65:Int)<=(s[0].toNat:Int):=Q0;have h:(s[0].toNat:Int)<=255:=by have:=s[0].toNat_lt;omega
   rw[b.out];clear g a f;go_enter func138,ntmps138;go_wp2_with fail;exact bodyPost_ret (v:=.agg #[.bool true,.int .i64 ((s[0].toNat:Int)-65)]) Te rfl ⟨rfl,bH _ _⟩
  have b:Hid (cJ (bG s)=⟨false,dE (bG s)⟩):=by
   show _=_;unfold cJ;rw[a,g,if_neg Q0]
  have m:¬(65:Int)<=(s[0].toNat:Int):=Q0;have HC:=oI (c.alloc (.cells #[.bool false,.int .i64 0] 100)) s i;rw[b.out];clear g a f;exact afg
 have b:Hid (cJ (bG s)=⟨false,dE (bG s)⟩):=by
  show _=_;unfold cJ;rw[a,if_neg Q0]
 have k:((s.size:Int)==1)=false:=Tf;have HC:=oI (c.alloc (.cells #[.bool false,.int .i64 0] 100)) s i;rw[b.out];clear a f;exact afg
theorem Ate.b(c)(a:World):Ate c a a.drew:=⟨(Below.refl _ _).drew,lg.b ((Below.refl _ _).drew)⟩
theorem oH{b:World}{a s}(c:cu b a s):cu b.drew a s:=c
theorem Ek{f}{c i j:World}{l}(a:Ate f c i)(h:i.grownBy j l)(k:∀b,l=some b->c.heap.size<=b)(q:f<c.heap.size):Ate f c j:=by
 refine⟨a.below.grown h (by have:=a.d;omega) (λb e=>by have:=k b e;omega),?_,λg m n=>?_⟩
 .have o:=a.d;have p:=h.size;omega
 have o:=a.d;refine(h.block g Q0 (λe=>?_)).trans (a.behind.2 g m n);have:=k g e.symm;omega
theorem jg{b c:World}{f a o}(g:b.grownBy c f)(d:b.heap[a]? =some o)(h:some a≠f):c.heap[a]? =some o:=(g.block a (Array.getElem?_eq_some_iff.1 d).1 h).trans d
theorem vl{b}{f g:World}{a c n e d h}(i:f.ownsRow a e c d n h)(j:Ate b f g)(k:b<a):g.ownsRow a e c d n h:=ql i j.behind k
theorem EY{c}{h o:World}{s n m}(l:cu h c s)(u:bR h n m)(j:Ate c h o):bR o n m:=by
 obtain⟨i,p,rfl,r,a⟩:=u;refine⟨i,p,rfl,r,?_⟩;rcases a with a|⟨f,x,y,k,a⟩
 .exact .inl a
 refine .inr ⟨f,x,y,Nat.lt_of_lt_of_le k j.d,λv z q=>?_⟩;have b:=a v z q
 have t:f≠c:=by
  rintro rfl;have:=b.2.1;unfold cu at l;simp[cell?,l] at this
 have g:=λw=>World.cell?_of_block (a:=⟨f,w,none⟩) (j.e t k);exact⟨(g _).trans b.1,(g _).trans b.2.1,(g _).trans b.2.2⟩
def dT(w:World)(b:Nat)(x y:Value):Prop:=w.heap[b]? =some (.cells #[x,y] 55 (0,0))
theorem dT.c{b a}{f g:World}{h i}(d:dT f a h i)(j:Ate b f g)(k:a≠b):dT g a h i:=(j.e k (Array.getElem?_eq_some_iff.1 d).1).trans d
theorem dT.a{b}{c:World}{d f}(h:dT c b d f):c.cell? b=some d/\c.cell? ⟨b,1,none⟩=some f/\c.frozen? b=false/\c.frozen? ⟨b,1,none⟩=false:=by
 unfold dT at h;exact ad7
theorem dT.b{a}{c:World}{f g}(d:dT c a f g):a<c.heap.size:=(Array.getElem?_eq_some_iff.1 d).1
theorem dT.f{a}{c:World}{d h}(g:dT c a d h)(b):dT (c.setCell ⟨a,1,none⟩ b) a d b:=heap_setCell_same c a 1 _ _ b g
theorem dT.e{a b k}{c:World}{d f i}(g:dT c a d f)(h:b≠a):dT (c.setCell ⟨b,k,none⟩ i) a d f:=by
 unfold dT;rw[h_ h];exact g
theorem oG{h:World}{b g n e c i}(d:h.ownsRow b e g c n i):∀a,c.ownBlock=some a->b<=a:=λa f=>(d.lt a f).1
theorem iv{h:World}{i p n b e c g q j}{f:Nat×Nat}(a:h.ownsRow i e p g n q)(d:h.heap[b]? =some (.cells j c f))(m:e≠c):some b≠g.ownBlock:=by
 rcases a.2 with⟨rfl,_⟩|⟨k,r,s,rfl,_,o,_⟩
 .intro a;cases a
 intro a;have l:b=k:=Option.some.inj a;subst l;rw[o] at d;cases d
 exact m rfl
theorem jE{b:World}{d i n c k e g j y l m}{f:Nat×Nat}(h:b.ownsRow d e i j n l)(v:b.heap[c]? =some (.cells m g f))(x:e≠g):(b.setCell ⟨c,k,none⟩ y).ownsRow d e i j n l:=by
 have w:=iv h v x;obtain⟨r,a⟩:=h;refine⟨r,?_⟩;rcases a with a|⟨q,o,p,rfl,s,t,u⟩
 .exact .inl a
 refine .inr ⟨q,o,p,rfl,s,?_,u⟩;rw[h_ (λz=>w (by subst z;rfl))];exact t
theorem yi:∀(l:List Tm) (a:Tm),dW (l++[a])=dW l++[.bool a.var,.int .i64 a.n]
 |[],a=>rfl
 |x::l,a=>by simp only[cons_append,dW,yi l a]
theorem lT{d:World}{b c f}:∀(i:Nat) (a:Value),[b,c][i]? =some a->(d.alloc (.cells #[b,c] f)).cell? ((⟨d,0,none⟩:Addr).add i)=some a:=by
 intro i a hv;match i,hv with
 |0,hv=>
  obtain rfl:b=a:=RX;simp[go_sem]
 |1,hv=>
  obtain rfl:c=a:=RX;simp[go_sem]
 |i+2,hv=>simp at hv
theorem gk{j:World}{c i n e a k}(g:j.ownsRow c e i a n k):∃b d,a=.slice b n d:=by
 rcases g.2 with⟨rfl,h⟩|⟨m,f,l,rfl,_⟩
 .subst h;exact⟨none,0,rfl⟩
 exact⟨_,f,rfl⟩
def fh(e:TypeId)(n:Nat)(w w':World):Prop:=∀b c f,n<=b->w.heap[b]? =some (.cells c e f)->w'.heap[b]? =w.heap[b]?
theorem fh.b{e n}{i j l:World}(h:fh e n i j)(k:fh e n j l):fh e n i l:=λa c f d g=>(k a c f d ((h a c f d g).trans g)).trans (h a c f d g)
theorem fh.c{e n}{a b:World}(f:Below a a b):fh e n a b:=λd _ _ _ g=>f.block d (Array.getElem?_eq_some_iff.1 g).1
theorem fh.e{a n e}{b c:World}(d:Ate a b c)(h:a<n):fh e n b c:=λg _ _ i f=>d.e Q0 (Array.getElem?_eq_some_iff.1 f).1
theorem fh.d{e b n i o k}{a g:World}{f p}(m:a.grownBy g f.ownBlock)(j:a.ownsRow i b o f k p)(l:b≠e):fh e n a g:=λh _ _ _ c=>m.block h (Array.getElem?_eq_some_iff.1 c).1 (iv j c l)
theorem fh.a{e d n c k}{b:World}{l h}{f:Nat×Nat}(i:b.heap[c]? =some (.cells h d f))(j:d≠e):fh e n b (b.setCell ⟨c,k,none⟩ l):=λo p q _ g=>by
 refine h_ (λm=>?_)
 subst m
 rw[i] at g
 cases g
 exact j rfl
theorem pm{i j:World}{b g n e h l}(p:i.ownsRow b e g h n l)(k:fh e b i j):j.ownsRow b e g h n l:=by
 obtain⟨q,a⟩:=p;refine⟨q,?_⟩;rcases a with a|⟨c,m,o,a,d,f,r⟩
 .exact .inl a
 exact .inr ⟨c,m,o,a,d,(k c _ _ d f).trans f,r⟩
def dY(n:Nat)(w:World)(av:Value)(ts:List Tm):Prop:=ts.length<=4096/\w.ownsRow n 100 2 av ts (dW ts)
theorem dY.a{n}{f g:World}{b d}(c:dY n f b d)(k:fh 100 n f g):dY n g b d:=⟨c.1,pm c.2 k⟩
theorem dY.c{n}{f:World}{a d}(b:dY n f a d):cr f a d:=DE b.2 (by have:=b.1;omega)
theorem dY.b{n d}{g:World}{a f}(c:dY n g a f)(h:d<=n):dY d g a f:=⟨c.1,li c.2 h⟩
def iN(n:Nat)(w:World)(bv:Value)(ls:List Ltr):Prop:=∃lvs:List LV,lvs.map LV.l=ls/\lvs.length<=4096/\w.ownsRow n 103 3 bv lvs (d9 lvs)/\∀x∈lvs,dY n w x.av x.l.atom.args
theorem iN.a{n}{b c:World}{d f}(g:iN n b d f)(k:fh 100 n b c)(o:fh 103 n b c):iN n c d f:=by
 obtain⟨p,h,i,j,l⟩:=g;exact⟨p,h,i,pm j o,λq m=>(l q m).a k⟩
theorem iN.c{n}{d:World}{a b}(f:iN n d a b):dC d a b:=by
 obtain⟨l,rfl,k,g,h⟩:=f;exact Dn g Q0 (λj i=>(h j i).c)
theorem iN.b{n f}{g:World}{a d}(h:iN n g a d)(c:f<=n):iN f g a d:=by
 obtain⟨o,i,j,k,l⟩:=h;exact⟨o,i,j,li k c,λp m=>(l p m).b c⟩
theorem DK:∀(n a:Nat) (s:List UInt8),s.length<n->s.length<a->jS n s=jS a s
 |0,_,s,b,_=>Q0
 |_+1,0,s,_,b=>Q0
 |n+1,a+1,s,f,g=>by
  rw[jS,jS]
  obtain⟨_,_,d⟩:=je (p:=[44]) Q1 s
  cases c:(bY [44] s).2.2 with
  |false=>rfl
  |true=>
   have:=d c
   simp only[if_true]
   rw[DK n a _ Q0 Q0]
def lV(b:Bool)(A:ByteArray):List Tm:=if b then jS (A.size+1) (bG A) else[]
def mv(b:Bool)(A:ByteArray):Nat:=if b then A.size+1 else 0
def oB:Value->Value->Nat
 | .string A,.bool true=>A.size+1
 |_,_=>0
structure ax (w:World) (N:Nat) (p:Int) (wr:World) (ts:List Tm) (u:Value):Prop where
 box:dT wr N p u
 out:dT wr w.heap.size (.int .i64 0) (.slice none 0 0)
 own:wr.ownsRow w.heap.size 100 2 u ts (dW ts)
 below:Below w w wr
theorem dT.d{a}{w f:World}{g h}(c:dT w a g h)(i:Below w w f):dT f a g h:=(i.block a c.b).trans c
theorem ax.a{i:World}{f p}{wr j:World}{g h}(b:ax i f p wr g h)(c:Below wr wr j):ax i f p j g h:=
 ⟨b.box.d c,b.out.d c,gC b.own c,b.below.trans (c.mono b.below.size)⟩
theorem Tg(h:p:=by show w.heap.size<=N;omega):p:=h
theorem nJ{w:World}{N p d g t}{l c:World}{j i}(x:w.heap.size<N)(b:ax w N p l d g)(k:l.grownBy c g.ownBlock)(s:c.ownsRow w.heap.size 100 2 (.slice (some ⟨j,0,none⟩) (d.length+1) i) (d.length+1) (dW d++[.bool t.var,.int .i64 t.n])):c.cell? ⟨N,1,none⟩=some g/\c.frozen? ⟨N,1,none⟩=false/\Hid (ax w N p (c.setCell ⟨N,1,none⟩ (.slice (some ⟨j,0,none⟩) (d.length+1) i)) (d++[t]) (.slice (some ⟨j,0,none⟩) (d.length+1) i)):=by
 have h:dT c N p g:=jg k b.box (iv b.own b.box QY);have m:dT c w (.int .i64 0) (.slice none 0 0):=jg k b.out (iv b.own b.out QY);have o:=b.below.grown k b.below.size (oG b.own);obtain⟨u,q,v,r⟩:=h.a;refine⟨q,r,h.f _,m.e Q0,?_,o.setCell (p:=⟨N,1,none⟩) Tg _⟩;rw[yi,length_append];exact jE s h QY
theorem Th(h:p:=by rw[length_nil,zero_add];exact HL0.out):p:=h
theorem Ti(h:p:=by rw[<-hTL];show _<=_;rw[du];omega):p:=h
theorem Tj(h:p:=by intro u hu;simp at hu;rcases hu with rfl|rfl<;>rfl):p:=h
theorem Tk(h:p:=by unfold maxLen;omega):p:=h
theorem Tl(h:p:=by have:=HSE.out;omega):p:=h
theorem Tn(h:p:=by exact hgrow9):p:=h
theorem To(h:p:=by exact hown9):p:=h
theorem Tp(h:p:=by rw[du];omega):p:=h
theorem aeY(h:p:=by
 obtain⟨i0,hi0,hz0,hz1,hz2⟩:=info_parts rY
 have HAFT:Hid (∀w6,Below w5.drew.heap.size w5.drew w6->w6.cell? ⟨N,1,none⟩=some u/\(w6.alloc (.cells #[.bool (cJ tl).var,.int .i64 (cJ tl).n] 100)).cell? ⟨N,1,none⟩=some u/\Hid (ax w N p (w6.alloc (.cells #[.bool (cJ tl).var,.int .i64 (cJ tl).n] 100)) ts u)/\Hid (w.heap.size<=w6.heap.size+1/\(w6.alloc (.cells #[.bool (cJ tl).var,.int .i64 (cJ tl).n] 100)).heap.size=w6.heap.size+1)):=λw6 hb=>by
  have h1:=HI5.out.a (((Below.refl _ _).drew).trans hb)
  have h2:ax w N p (w6.alloc (.cells #[.bool (cJ tl).var,.int .i64 (cJ tl).n] 100)) ts u:=h1.a (bH _ _)
  refine⟨h1.box.a.2.1,h2.box.a.2.1,h2,?_,size_alloc _ _⟩
  have:=h1.below.size
  omega
 have HT:Hid (Calls prog 138 #[.string TL] w5.drew λe w'=>e=.returned (.agg #[.bool (cJ tl).var,.int .i64 (cJ tl).n])/\Below w5.drew.heap.size w5.drew w'):=by
  have:=yT w5.drew TL HTLz.out
  rw[HTL.out] at this
  exact this
 have q5:w5.drew.cell? ⟨N,1,none⟩=some u:=HI5.out.box.a.2.1
 refine wp_region_noPanic ?_
 refine wp_region_held_drew (S:=(λ_:World=>True)) QX trivial (λhHeld=>?_)
 refine tk_ 0 ?_ rfl ?_ ?_
 rotate_left
 ·(intro w hSw;go_simp;try with_reducible rfl)
 simp only[Act.put]
 refine tk_ 2 ?_ rfl ?_ ?_
 rotate_left
 ·(intro w hSw;go_simp;try with_reducible rfl)
 simp only[Act.put]
 refine wpAnyH_ready (rs:=[1,3]) QX Q1 ?_
 refine AllReadyH.cons rfl (λK hK=>?_) ?_
 .go_simp
  refine hK.out _ _ trivial (λhHeld=>?_)
  clear hK K
  try simp only[sq_]
  refine rd_ 3 rfl λK hK=>?_
  go_simp
  refine mo_ HT.out λw6 hb6=>?_
  obtain⟨q6,qV,HV,HSE⟩:=HAFT w6 hb6
  clear hb6
  refine hK.out _ _ trivial (λhHeld=>?_)
  clear hK K
  try simp only[sq_]
  refine rd_ 4 rfl λK hK=>?_
  go_simp
  refine hK.out _ _ trivial (λhHeld=>?_)
  clear hK K
  try simp only[sq_]
  refine rd_ 5 rfl λK hK=>?_
  refine step_append_lies _ SS _ _ 53 SS w 100 i0 (.agg #[.bool false,.int .i64 0]) 2 16 underlying53 hi0 hz0 hz1 hz2 SS Q0 u ts (dW ts) SS HV.out.own ⟨w6,0,none⟩ 1 1 [.bool (cJ tl).var,.int .i64 (cJ tl).n] SS SS lT Tj Q0 Tk Q0 Tl (w6.heap.size+1) (size_alloc _ _) ?_
  intro g9 cap9 W9 hown9 hgrow9 hat9 hlt9
  obtain⟨n1,n2,HN9⟩:=nJ (t:=cJ tl) hN1 HV Tn To
  clear hat9 hlt9 hown9 hgrow9
  refine hK.out _ _ trivial (λhHeld=>?_)
  clear hK K
  try simp only[Act.put,setIfInBounds_toArray]
  refine tk_ 6 ?_ rfl ?_ ?_
  rotate_left
  ·(intro w hSw;go_simp;try with_reducible rfl)
  simp only[Act.put]
  refine rd_ 7 rfl λK hK=>?_
  go_simp
  refine hK.out _ _ trivial (λhHeld=>?_)
  clear hK K
  try simp only[sq_]
  refine wpAnyH_done QX ?_ _
  refine NoPanic.normal ?_
  clear n1 n2 q5 q6 qV
  go_wp2_with fail
  go_roundw
  case rel=>exact⟨_,_,_,_,rfl,rfl,HN9,HREL⟩
  exact HMEA.out
 refine AllReadyH.cons rfl (λK hK=>?_) AllReadyH.nil
 go_simp
 refine mo_ HT.out λw6 hb6=>?_
 obtain⟨q6,qV,HV,HSE⟩:=HAFT w6 hb6
 clear hb6
 refine hK.out _ _ trivial (λhHeld=>?_)
 clear hK K
 try simp only[sq_]
 refine wpAnyH_ready (rs:=[1,4]) QX Q1 ?_
 refine AllReadyH.cons rfl (λK hK=>?_) ?_
 .go_simp
  refine hK.out _ _ trivial (λhHeld=>?_)
  clear hK K
  try simp only[sq_]
  refine rd_ 4 rfl λK hK=>?_
  go_simp
  refine hK.out _ _ trivial (λhHeld=>?_)
  clear hK K
  try simp only[sq_]
  refine rd_ 5 rfl λK hK=>?_
  refine step_append_lies _ SS _ _ 53 SS w 100 i0 (.agg #[.bool false,.int .i64 0]) 2 16 underlying53 hi0 hz0 hz1 hz2 SS Q0 u ts (dW ts) SS HV.out.own ⟨w6,0,none⟩ 1 1 [.bool (cJ tl).var,.int .i64 (cJ tl).n] SS SS lT Tj Q0 Tk Q0 Tl (w6.heap.size+1) (size_alloc _ _) ?_
  intro g9 cap9 W9 hown9 hgrow9 hat9 hlt9
  obtain⟨n1,n2,HN9⟩:=nJ (t:=cJ tl) hN1 HV Tn To
  clear hat9 hlt9 hown9 hgrow9
  refine hK.out _ _ trivial (λhHeld=>?_)
  clear hK K
  try simp only[Act.put,setIfInBounds_toArray]
  refine tk_ 6 ?_ rfl ?_ ?_
  rotate_left
  ·(intro w hSw;go_simp;try with_reducible rfl)
  simp only[Act.put]
  refine rd_ 7 rfl λK hK=>?_
  go_simp
  refine hK.out _ _ trivial (λhHeld=>?_)
  clear hK K
  try simp only[sq_]
  refine wpAnyH_done QX ?_ _
  refine NoPanic.normal ?_
  clear n1 n2 q5 q6 qV
  go_wp2_with fail
  go_roundw
  case rel=>exact⟨_,_,_,_,rfl,rfl,HN9,HREL⟩
  exact HMEA.out
 refine AllReadyH.cons rfl (λK hK=>?_) AllReadyH.nil
 go_simp
 refine hK.out _ _ trivial (λhHeld=>?_)
 clear hK K
 try simp only[sq_]
 refine rd_ 1 rfl λK hK=>?_
 go_simp
 refine hK.out _ _ trivial (λhHeld=>?_)
 clear hK K
 try simp only[sq_]
 refine rd_ 5 rfl λK hK=>?_
 refine step_append_lies _ SS _ _ 53 SS w 100 i0 (.agg #[.bool false,.int .i64 0]) 2 16 underlying53 hi0 hz0 hz1 hz2 SS Q0 u ts (dW ts) SS HV.out.own ⟨w6,0,none⟩ 1 1 [.bool (cJ tl).var,.int .i64 (cJ tl).n] SS SS lT Tj Q0 Tk Q0 Tl (w6.heap.size+1) (size_alloc _ _) ?_
 intro g9 cap9 W9 hown9 hgrow9 hat9 hlt9
 obtain⟨n1,n2,HN9⟩:=nJ (t:=cJ tl) hN1 HV Tn To
 clear hat9 hlt9 hown9 hgrow9
 refine hK.out _ _ trivial (λhHeld=>?_)
 clear hK K
 try simp only[Act.put,setIfInBounds_toArray]
 refine tk_ 6 ?_ rfl ?_ ?_
 rotate_left
 ·(intro w hSw;go_simp;try with_reducible rfl)
 simp only[Act.put]
 refine rd_ 7 rfl λK hK=>?_
 go_simp
 refine hK.out _ _ trivial (λhHeld=>?_)
 clear hK K
 try simp only[sq_]
 refine wpAnyH_done QX ?_ _
 refine NoPanic.normal ?_
 clear n1 n2 q5 q6 qV
 go_wp2_with fail
 go_roundw
 case rel=>exact⟨_,_,_,_,rfl,rfl,HN9,HREL⟩
 exact HMEA.out):p:=h
theorem aeV(h:p:=by
 go_simp
 refine hK.out _ _ trivial (λhHeld=>?_)
 clear hK K
 try simp only[sq_]
 refine rd_ 5 rfl λK hK=>?_
 refine step_append_lies _ SS _ _ 53 SS w 100 i0 (.agg #[.bool false,.int .i64 0]) 2 16 underlying53 hi0 hz0 hz1 hz2 SS Q0 u ts (dW ts) SS HV.out.own ⟨w6,0,none⟩ 1 1 [.bool (cJ tl).var,.int .i64 (cJ tl).n] SS SS lT Tj Q0 Tk Q0 Tl (w6.heap.size+1) (size_alloc _ _) ?_
 intro g9 cap9 W9 hown9 hgrow9 hat9 hlt9
 obtain⟨n1,n2,HN9⟩:=nJ (t:=cJ tl) hN1 HV Tn To
 clear hat9 hlt9 hown9 hgrow9
 refine hK.out _ _ trivial (λhHeld=>?_)
 clear hK K
 try simp only[Act.put,setIfInBounds_toArray]
 refine tk_ 6 ?_ rfl ?_ ?_
 rotate_left
 ·(intro w hSw;go_simp;try with_reducible rfl)
 simp only[Act.put]
 refine rd_ 7 rfl λK hK=>?_
 go_simp
 refine hK.out _ _ trivial (λhHeld=>?_)
 clear hK K
 try simp only[sq_]
 refine wpAnyH_done QX ?_ _
 refine NoPanic.normal ?_
 clear n1 n2 q5 q6 qV
 go_wp2_with fail
 go_roundw
 case rel=>exact⟨_,_,_,_,rfl,rfl,HN9,HREL⟩
 exact HMEA.out):p:=h
theorem Y7(h:p:=by
 have h1:=HI5.out.a (((Below.refl _ _).drew).trans hb)
 have h2:ax w N p (w6.alloc (.cells #[.bool (cJ tl).var,.int .i64 (cJ tl).n] 100)) ts u:=h1.a (bH _ _)
 refine⟨h1.box.a.2.1,h2.box.a.2.1,h2,?_,size_alloc _ _⟩
 have:=h1.below.size
 omega):p:=h
theorem aay(h:p:=by
 have:=yT w5.drew TL HTLz.out
 rw[HTL.out] at this
 exact this):p:=h
theorem aex(h:p:=by
 clear heq
 go_wp2_with fail
 go_roundw
 case rel=>exact⟨j+1,Q0,Rv,HN⟩
 exact S6):p:=h
theorem xW(w:World)(aj f s)(ag:bR w aj f)(aR:s.size<=4096):Calls prog 88 #[aj,.string s] w λe w'=>∃ab,e=.returned (.agg #[.int .i64 (fi f (bG s)).pred,ab])/\dY w w' ab (fi f (bG s)).args/\Below w w w':=by
 have ak:=lp_ ag;obtain⟨aA,aC,rfl,aQ,_⟩:=ag;obtain⟨A,hW1⟩:=ex_ (w.alloc (.cells #[.int .i64 0,.slice none 0 0] 55));have P:Below w w A:=RT;have R:dT A w (.int .i64 0) (.slice none 0 0):=Tc;have o:=lm A s ⟨#[40]⟩ QY QY Q0;rw[show bG (⟨#[40]⟩:ByteArray)=[40] from rfl] at o;have l:=je (p:=[40]) Q1 (bG s);rw[cD] at l;obtain⟨h,O⟩:=ex_ (bN (bY [40] (bG s)).1);obtain⟨x,D⟩:=ex_ (bN (bY [40] (bG s)).2.1);obtain⟨z,F⟩:=ex_ ((bY [40] (bG s)).2.2);rw[O,D,F] at o;have al:Hid (bG h=(bY [40] (bG s)).1):=by rw[<-O];exact de _
 have Z:Hid (fi f (bG s)=⟨km f (bG h) f,lV z x⟩):=by
  show _=_;unfold fi lV;rw[al.out,F,<-D,du,de]
 have HL0:Hid (mv z x<=s.size):=by
  show _<=_;unfold mv;rw[<-D,du,<-F];split
  .rename_i r;have:=l.2.2 r;omega
  omega
 clear O D F l;go_enter func88,ntmps88;go_wp2_with fail;clear hW1;refine o.mono ?_;clear o;rintro e C ⟨rfl,E⟩;obtain⟨N,ad⟩:=ex_ C.heap.size
 have hN1:w.heap.size<N:=by
  have h1:=R.b;have h2:=E.size;omega
 have X:Hid (ax w N (-1) (C.alloc (.cells #[.int .i64 (-1),.slice none 0 0] 55)) [] (.slice none 0 0)):=by
  have ae:Below A A (C.alloc (.cells #[.int .i64 (-1),.slice none 0 0] 55)):=E.alloc E.size _;refine⟨by rw[<-ad];exact heap_alloc_new C _,R.d ae,⟨rfl,.inl ⟨rfl,rfl⟩⟩,P.trans (ae.mono P.size)⟩
 go_wp2_with fail;generalize C.alloc (.cells #[.int .i64 (-1),.slice none 0 0] 55)=aH at*;clear P E R ad;go_loopw [9] (λT wr=>∃j:Nat,j<=f.length/\T=.int .i64 j/\Hid (ax w N (km f (bG h) j) wr [] (.slice none 0 0))) (λT _=>f.length-(intOf T).toNat)
 case atStart=>exact⟨0,zero_le _,rfl,X.out⟩
 clear X;obtain⟨j,aL,rfl,g⟩:=hrel;by_cases Q:j<f.length
 .obtain⟨aB,aE,aD,ai,aP,aV,ay,az⟩:=cN (ak wr g.out.below) Q;obtain⟨rfl,rfl⟩:aA=some ⟨aB,aE,none⟩/\aC=aD:=by simpa using ai
  have aN:(j:Int)<(f.length:Int):=Q0;have aM:(0:Int)<=(j:Int):=Q0
  have aa:Hid (km f (bG h) (j+1)=if bG f[j].name=bG h then(j:Int) else km f (bG h) j):=by
   show _=_;rw[km,List.getElem?_eq_getElem Q];simp
  clear ai ay az;generalize f[j].name=V at*;obtain⟨ao,ap,au,av⟩:=g.out.box.a;by_cases heq:bG V=bG h
  .have hb:(V.toList==h.toList)=true:=by rw[nM];simp[heq]
   have HN:Hid (ax w N (km f (bG h) (j+1)) (wr.setCell N j) [] (.slice none 0 0)):=by
    have r:=g.out;have e:km f (bG h) (j+1)=(j:Int):=by rw[aa.out,if_pos heq]
    rw[e];exact⟨heap_setCell_same wr N 0 _ _ _ r.box,r.out.e Q0,jE r.own r.box QY,r.below.setCell (p:=⟨N,0,none⟩) Tg _⟩
   exact aex
  have hb:(V.toList==h.toList)=false:=by rw[nM];simp[heq]
  have HN:Hid (ax w N (km f (bG h) (j+1)) wr [] (.slice none 0 0)):=by
   have e:km f (bG h) (j+1)=km f (bG h) j:=by rw[aa.out,if_neg heq]
   rw[e];exact g.out
  exact aex
 obtain rfl:j=f.length:=Q0;obtain⟨p,ah⟩:=ex_ (km f (bG h) f.length);rw[ah] at g Z;clear ah Q;go_wp2_with fail;go_loopw [6,7] (λI U wr=>∃(ts:List Tm) (u:Value) (c:ByteArray) (B:Bool),I=.string c/\U=.bool B/\Hid (ax w N p wr ts u)/\Hid (lV z x=ts++lV B c/\ts.length+mv B c<=s.size)) (λI U _=>oB I U)
 case atStart=>exact⟨[],_,x,z,rfl,rfl,g,rfl,Th⟩
 clear g;obtain⟨ts,u,c,B,rfl,rfl,g,q⟩:=hrel;cases B with
 |true=>
  have l:=je (p:=[44]) Q1 (bG c);rw[cD] at l;have aU:ts.length+(c.size+1)<=s.size:=by have:=q.out.2;unfold mv at this;simpa using this
  have aT:ts.length<=4096:=Q0;have o:=lm wr c ⟨#[44]⟩ QY QY Q0;rw[show bG (⟨#[44]⟩:ByteArray)=[44] from rfl] at o;have y:Hid (jS (c.size+1) (bG c)=if(bY [44] (bG c)).2.2 then cJ (bY [44] (bG c)).1::jS c.size (bY [44] (bG c)).2.1 else[cJ (bY [44] (bG c)).1.dropLast]):=by show _=_;rw[jS]
  generalize bY [44] (bG c)=aF at*;obtain⟨k,i,an⟩:=aF;simp only at l o y;go_wp2_with fail;refine o.mono ?_;clear o;rintro e w5 ⟨rfl,af⟩;have HI5:=bK (g.out.a af);clear af;cases an with
  |true=>
   have aO:=l.2.2 rfl;obtain⟨tl,m⟩:=ex_ k;obtain⟨TL,hTL⟩:=ex_ (bN k);have HTL:Hid (bG TL=tl):=by rw[<-hTL,<-m];exact de _
   have HTLz:Hid (TL.size<=100000):=Ti
   have HREL:Hid (lV z x=(ts++[cJ tl])++lV true (bN i)/\(ts++[cJ tl]).length+mv true (bN i)<=s.size):=by
    refine⟨?_,?_⟩
    .have J:lV true c=jS (c.size+1) (bG c):=rfl;have L:lV true (bN i)=jS ((bN i).size+1) (bG (bN i)):=rfl;rw[q.out.1,J,y.out,if_pos rfl,L,du,de,DK c.size (i.length+1) i Q0 Q0,m];simp
    show _+((bN i).size+1)<=_;rw[du,length_append,length_singleton];omega
   have HMEA:Hid (oB (.string (bN i)) (.bool true)<oB (.string c) (.bool true)):=by
    show(bN i).size+1<c.size+1;rw[du];omega
   rw[hTL];clear hTL m l q y;go_wp2_with fail;exact aeY
  |false=>
   obtain⟨tl,m⟩:=ex_ k.dropLast
   have HREL:Hid (lV z x=(ts++[cJ tl])++lV false (bN i)/\(ts++[cJ tl]).length+mv false (bN i)<=s.size):=by
    refine⟨?_,?_⟩
    .have J:lV true c=jS (c.size+1) (bG c):=rfl;have L:lV false (bN i)=[]:=rfl;rw[q.out.1,J,y.out,if_neg Q1,L,m];simp
    show _+0<=_;rw[length_append,length_singleton];omega
   have HMEA:Hid (oB (.string (bN i)) (.bool false)<oB (.string c) (.bool true)):=by
    show 0<c.size+1;omega
   by_cases M:k.length=0
   .have ac:¬(0:Int)<((bN k).size:Int):=Tp;obtain⟨TL,hTL⟩:=ex_ (bN k)
    have HTL:Hid (bG TL=tl):=by
     rw[<-hTL,<-m];show _=_;rw[de,List.eq_nil_of_length_eq_zero M];rfl
    have HTLz:Hid (TL.size<=100000):=Ti;rw[hTL] at ac⊢;clear hTL m l q y M;go_wp2_with fail;exact aeY
   have ac:(0:Int)<((bN k).size:Int):=Tp;have aK:0<(bN k).size:=Tp;have aS:((bN k).size:Int)-1=(((bN k).size-1:Nat):Int):=Q0;obtain⟨TL,hTL⟩:=ex_ ((bN k).extract 0 ((bN k).size-1))
   have HTL:Hid (bG TL=tl):=by
    rw[<-hTL,<-m];show _=_;rw[qy,de,du,List.dropLast_eq_take]
   have aw:(bN k).size<=100000:=by rw[du];have:=l.1;omega
   have HTLz:Hid (TL.size<=100000):=by
    show _<=_;rw[<-cD,HTL.out,<-m,List.length_dropLast];rw[du] at aw;omega
   generalize bN k=aG at*;clear m l q y M;go_wp2_with fail;clear hTL;exact aeY
 |false=>
  have W:Hid (fi f (bG s)=⟨p,ts⟩):=by
   show _=_;rw[Z.out,q.out.1];show Atm.mk p (ts++[])=_;rw[append_nil]
  have am:Hid (ts.length<=4096):=by show _<=_;have:=q.out.2;omega
  obtain⟨G,H,rfl⟩:=gk g.out.own;obtain⟨ao,ap,au,av⟩:=g.out.box.a;obtain⟨aq,ar,aI,aJ⟩:=g.out.out.a;have Y:Hid (dY w ((wr.setCell w p).setCell ⟨w,1,none⟩ (.slice G ts H)) (.slice G ts H) ts/\Below w w ((wr.setCell w p).setCell ⟨w,1,none⟩ (.slice G ts H))):=⟨⟨am.out,jE (jE g.out.own g.out.out QY) (heap_setCell_same wr w.heap.size 0 _ _ _ g.out.out) QY⟩,(g.out.below.setCell (p:=⟨w,0,none⟩) (le_refl _) _).setCell (p:=⟨w,1,none⟩) (le_refl _) _⟩;clear q;go_wp2_with fail;exact bodyPost_ret (v:=.agg #[p,.slice G ts H]) (by simp[results,results88,go_sem,aq,ar]) rfl ⟨_,by rw[W.out],by rw[W.out];exact Y.out.1,Y.out.2⟩
theorem MA{b}(c:db b=true):1<=(bG (dO b)).length:=by
 have a:=vA c [];rw[append_nil] at a;cases d:bG (dO b) with
 |nil=>rw[d] at a;cases a
 |cons f g=>simp
def xS(n:Nat)(a:Atm)(v:Value)(w':World):Prop:=∃av,v=.agg #[a.pred,av]/\dY n w' av a.args
structure bi (w:World) (B N k A:Nat) (s1:List UInt8) (wr:World) (j:Nat) (ts:List Tm) (u:Value) (sj:List UInt8):Prop where
 many:ts.length=j
 box:dT wr N k u
 out:dT wr w.heap.size (.int .i64 0) (.slice none 0 0)
 own:wr.ownsRow w.heap.size 100 2 u j (dW ts)
 rest:cu wr B sj
 ate:Ate B w wr
 len:sj.length+j<=s1.length
 args:iu A 0 s1=(iu (A-j) j sj).bind λy=>some (ts++y.1,y.2)
theorem bi.a{f:World}{d i k o r}{wr b:World}{l n j s m}(g:bi f d i k o r wr l n j s)(h:Ate d wr b)(p:d<f.heap.size)(t:f.heap.size<=i)(q:cu b d m):dT b i k j/\dT b f (.int .i64 0) (.slice none 0 0)/\b.ownsRow f.heap.size 100 2 j l (dW n)/\cu b d m/\Ate d f b:=
 ⟨g.box.c h Q0,g.out.c h Q0,vl g.own h p,q,g.ate.a h⟩
theorem Ej{a wr:World}{b c f g l k m}(d:dT wr a.heap.size k m)(h:wr.ownsRow a.heap.size 100 2 f b (dW c))(j:c.length=b)(i:b<=4096):dY a ((wr.setCell a g).setCell ⟨a,1,none⟩ l) f c:=by
 subst j;exact⟨i,jE (jE h d QY) (heap_setCell_same wr a.heap.size 0 _ _ g d) QY⟩
theorem xX{g:World}{m i k h:Nat}{x}{b:Nat}{o p z y l r}{j c:World}{w u:Nat}(Q:o.length=b)(W:z.length+b<=x.length)(P:iu h 0 x=(iu (h-b) b z).bind λA=>some (o++A.1,A.2))(V:b<h)(B:bT [if b=0 then 40 else 44] z=some y)(v:jj y=some (r,l))(C:m<g.heap.size)(U:g.heap.size<i)(O:dT j i k p/\dT j g (.int .i64 0) (.slice none 0 0)/\j.ownsRow g.heap.size 100 2 p b (dW o)/\cu j m l/\Ate m g j)(q:j.grownBy c p.ownBlock)(N:c.ownsRow g.heap.size 100 2 (.slice (some ⟨w,0,none⟩) (b+1) u) (b+1) (dW o++[.bool r.var,.int .i64 r.n])):c.cell? ⟨i,1,none⟩=some p/\c.frozen? ⟨i,1,none⟩=false/\Hid (bi g m i k h x (c.setCell ⟨i,1,none⟩ (.slice (some ⟨w,0,none⟩) (b+1) u)) (b+1) (o++[r]) (.slice (some ⟨w,0,none⟩) (b+1) u) l):=by
 obtain⟨D,E,s,F,G⟩:=O;have t:dT c i k p:=jg q D (iv s D QY);have H:dT c g (.int .i64 0) (.slice none 0 0):=jg q E (iv s E QY);have I:cu c m l:=jg q F (iv s F QY);have J:=Ek G q (oG s) C;have X:=G.d;obtain⟨R,K,T,M⟩:=t.a;have L:=fU B
 have S:l.length<y.length:=by
  have:=congrArg List.length (vB v).1;rw[length_append] at this;have:=MA (vB v).2;omega
 refine⟨K,M,?_,t.f _,H.e Q0,?_,fP I Q0,gE J Q0 C,?_,?_⟩
 .simp[Q]
 .rw[yi];exact jE N t QY
 .simp at L;omega
 rw[P,show h-b=(h-(b+1))+1 by omega,iu,B];simp only[Option.bind_some];rw[v];simp only[Option.bind_some];cases iu (h-(b+1)) (b+1) l with
 |none=>rfl
 |some A=>simp
theorem Tr(h:p:=by have:=HI.out.len;have:=HS1.out;omega):p:=h
theorem Ts(h:p:=by intro u hu;simp at hu;rcases hu with rfl|rfl<;>rfl):p:=h
theorem Tt(h:p:=by unfold maxLen;omega):p:=h
theorem Tu(h:p:=by have:=HSE.out;omega):p:=h
theorem Tv(h:p:=by rfl):p:=h
theorem Tw(h:p:=by exact hgrow9):p:=h
theorem Tx(h:p:=by exact hown9):p:=h
theorem Ty(h:p:=by simp[results,results66,go_sem,d0,d1]):p:=h
theorem Yt(h:p:=by (intro w hSw;go_simp;try with_reducible rfl)):p:=h
theorem Zb(h:p:=by
 go_simp
 refine HT.out.mono ?_
 intro e w6 h6
 obtain⟨rfl,hx6⟩:=h6.b
 clear h6
 exact⟨rfl,ft HNO (HI.out.ate.a (HA5.out.a ((Ate.b B w5).a hx6.out)))⟩):p:=h
theorem Zq(h:p:=by
 go_wp2_with fail
 exact⟨rfl,ft HNO (HI.out.ate.a ha.out)⟩):p:=h
theorem aaz(h:p:=by
 unfold eH
 rw[K0.out]
 simp only[Option.bind_some]
 rw[K1.out]
 simp only[Option.bind_some]
 rw[HAR.out,this]
 rfl):p:=h
theorem abm(h:p:=by
 have:=E7 w5.drew B s2 (oH HR5.out)
 rw[K3.out] at this
 exact this):p:=h
theorem abq(h:p:=by
 clear he
 go_wp2_with fail
 exact⟨rfl,ft HNO (HA1.out.a ha.out)⟩):p:=h
theorem ad_(h:p:=by
 go_simp
 refine hK.out _ _ trivial (λhHeld=>?_)
 clear hK K
 try simp only[sq_]
 refine rd_ 5 rfl λK hK=>?_
 refine step_append_lies _ Tv _ _ 53 Tv w 100 i0 (.agg #[.bool false,.int .i64 0]) 2 16 underlying53 hi0 hz0 hz1 hz2 Tv Q0 u j (dW ts) Tv HV.out.2.2.1 ⟨w6,0,none⟩ 1 1 [.bool t.var,.int .i64 t.n] Tv Tv lT Ts Q0 Tt Q0 Tu (w6.heap.size+1) (size_alloc _ _) ?_
 intro g9 cap9 W9 hown9 hgrow9 hat9 hlt9
 obtain⟨n1,n2,HN9⟩:=xX HI.out.many HI.out.len HI.out.args hjA K2 K3 hB hN1 HV Tw Tx
 clear hat9 hlt9 hown9 hgrow9
 refine hK.out _ _ trivial (λhHeld=>?_)
 clear hK K
 try simp only[Act.put,setIfInBounds_toArray]
 refine tk_ 6 ?_ rfl ?_ ?_
 rotate_left
 .exact Yt
 simp only[Act.put]
 refine rd_ 7 rfl λK hK=>?_
 go_simp
 refine hK.out _ _ trivial (λhHeld=>?_)
 clear hK K
 try simp only[sq_]
 refine wpAnyH_done QX ?_ _
 refine NoPanic.normal ?_
 clear n1 n2 q5 q6 qV
 go_wp2_with fail
 go_roundw
 case rel=>exact⟨j+1,ts++[t],_,s3,_,Q0,Rv,rfl,rfl,HN9⟩
 exact S6):p:=h
theorem acg(h:p:=by
 refine AllReadyH.cons rfl (λK hK=>?_) AllReadyH.nil
 exact Zb):p:=h
theorem aeH(h:p:=by
 refine hK.out _ _ trivial (λhHeld=>?_)
 clear hK K
 try simp only[sq_]
 refine rd_ 4 rfl λK hK=>?_
 exact ad_):p:=h
theorem uV(w:World)(B s)(h:cu w B s)(ay:s.length<=4096)(aF g)(aw:bR w aF g):Calls prog 66 #[.pointer (some ⟨B,0,none⟩),aF] w (gD B w (eH g s) λaJ l a2=>xS w aJ l a2):=by
 have hB:=iy h;have aj:=hid_ λM (aT:Ate B w M)=>EY h aw aT;have aH:=hid_ ay;obtain⟨aD,aE,rfl,ba,_⟩:=aw;obtain⟨E,hW1⟩:=ex_ (w.alloc (.cells #[.int .i64 0,.slice none 0 0] 55));have HA1:Hid (Ate B w E):=Ta;have ak:Hid (cu E B s):=Tb;have an:Hid (dT E w (.int .i64 0) (.slice none 0 0)):=Tc;have aQ:w.heap.size<E.heap.size:=RW;have k:=EN E B s ak Q0;clear ay h;go_enter func66,ntmps66;go_wp2_with fail;clear hW1;refine k.mono ?_;clear k;intro e D v;cases he:f8 eP s with
 |none=>
  rw[he] at v;obtain⟨rfl,ha⟩:=v.b;have HNO:Hid (eH g s=none):=by show _=_;unfold eH;rw[he];rfl
  exact abq
 |some M=>
  obtain⟨z,p⟩:=M;rw[he] at v;obtain⟨l,rfl,rfl,L⟩:=v.a;clear v;have K0:=hid_ he;clear he;have HS1:Hid (p.length<=4096):=by show _<=_;have:=congrArg List.length (iQ K0.out).1;rw[length_append] at this;have:=aH.out;omega
  have o:Ate B D (D.alloc (.cells #[.string (bN z)] 9)):=Ate.c (bH _ _) (le_of_lt (iy L.out.1));have Q:=hid_ (HA1.out.a (L.out.2.a o));have al:Hid (cu (D.alloc (.cells #[.string (bN z)] 9)) B p):=ji L.out.1 (bH _ _);have Y:=hid_ (an.out.c (L.out.2.a o) Q0);have k:=N8 (D.alloc (.cells #[.string (bN z)] 9)) (.slice aD g aE) g D.heap.size z (aj _ Q.out) Re Q1;have aR:=Y.out.b;clear o L ak an HA1 aQ;go_wp2_with fail;refine k.mono ?_;clear k;rintro e r ⟨rfl,ac⟩;have o:Ate B (D.alloc (.cells #[.string (bN z)] 9)) r:=Ate.c ac Q0;have R:=hid_ (Q.out.a o);have X:=hid_ (ji al ac);have Z:=hid_ (Y.out.c o Q0);have aS:=Z.out.b;clear o ac Q al Y aR;cases J:oy g z with
  |none=>
   have HNO:Hid (eH g s=none):=by show _=_;unfold eH;rw[K0.out];simp only[Option.bind_some];rw[J];rfl
   clear J;have aG:Hid (Ate B w (r.alloc (.cells #[.int .i64 (-1),.slice none 0 0] 55))):=R.out.a (Ate.c (bH _ _) (le_of_lt (iy X.out)));go_wp2_with fail;exact⟨rfl,ft HNO aG.out⟩
  |some f=>
   have K1:=hid_ J;have av:=(En J).1;clear J;simp only;obtain⟨x,aN⟩:=ex_ r.heap.size;have hN1:w.heap.size<x:=Q0;have ab:Ate B r (r.alloc (.cells #[f,.slice none 0 0] 55)):=Ate.c (bH _ _) Q0;have V:Hid (dT (r.alloc (.cells #[f,.slice none 0 0] 55)) x f (.slice none 0 0)):=by rw[<-aN];exact heap_alloc_new r _
   have ao:=hid_ (Z.out.c ab Q0);have T:=hid_ (R.out.a ab);have am:Hid (cu (r.alloc (.cells #[f,.slice none 0 0] 55)) B p):=ji X (bH _ _);obtain⟨aY,a0,aZ,ax,a9,aV,aW,aX⟩:=cN (aj _ T.out) av;obtain⟨rfl,rfl⟩:aD=some ⟨aY,a0,none⟩/\aE=aZ:=by simpa using ax
   have a8:(f:Int)<(g.length:Int):=Q0;have a7:(0:Int)<=(f:Int):=Q0;obtain⟨i,ar⟩:=ex_ ((dN g (f:Int)).toNat);have HAR:=hid_ ar;have au:dN g (f:Int)=g[f].arity:=by unfold dN;simp[av]
   rw[au] at ar;obtain⟨F,G,H,I⟩:=V.out.a;clear ax ab R X Z aS au;generalize g[f].arity=ap at*;go_wp2_with fail;clear aV aW aX F G H I;generalize(r.alloc (.cells #[f,.slice none 0 0] 55))=a3 at*;go_loopw [7,24] (λaK ae wr=>∃(j:Nat) (ts:List Tm) (u:Value) (q:List UInt8) (N:ByteArray),j<=i/\ae=.int .i64 j/\aK=.string N/\Hid (bG N=[if j=0 then 40 else 44])/\Hid (bi w B x f i p wr j ts u q)) (λ_ ae _=>i-(intOf ae).toNat)
   case atStart=>exact⟨0,[],_,p,_,zero_le _,rfl,rfl,rfl,rfl,V.out,ao.out,⟨rfl,.inl ⟨rfl,rfl⟩⟩,am.out,T.out,Q1,by simp only[Nat.sub_zero];cases iu i 0 p<;>rfl⟩
   clear V ao am T;obtain⟨j,ts,u,q,N,a5,rfl,rfl,aI,HI⟩:=hrel;by_cases hjA:j<i
   .have aP:(j:Int)<ap:=Q0;have k:=EM wr B q N HI.out.rest;rw[aI.out] at k;go_wp2_with fail;refine k.mono ?_;clear k;intro e w5 m;cases he:bT [if j=0 then 40 else 44] q with
    |none=>
     rw[he,map_none] at m;obtain⟨rfl,ha⟩:=m.b
     have HNO:Hid (eH g s=none):=by
      show _=_
      have:iu i 0 p=none:=by
       rw[HI.out.args,show i-j=(i-(j+1))+1 by omega,iu,he];rfl
      exact aaz
     clear he;exact Zq
    |some s2=>
     rw[he,map_some] at m;obtain⟨l,rfl,rfl,y⟩:=m.a;clear m;have K2:=hid_ he;clear he;have HA5:=hid_ y.out.2;have HR5:=hid_ y.out.1;have q5:w5.drew.cell? ⟨x,1,none⟩=some u:=(HI.out.box.c HA5 Q0).a.2.1;clear y;go_wp2_with fail;cases P:jj s2 with
     |none=>
      have K3:=hid_ P;clear P
      have HT:Hid (Calls prog 109 #[.pointer (some ⟨B,0,none⟩)] w5.drew (gD B w5.drew none λt l _=>l=.agg #[.bool (Tm.var t),t.n])):=by
       exact abm
      have HNO:Hid (eH g s=none):=by
       show _=_
       have:iu i 0 p=none:=by
        rw[HI.out.args,show i-j=(i-(j+1))+1 by omega,iu,K2.out];simp only[Option.bind_some];rw[K3.out];rfl
       exact aaz
      refine wp_region_held_drew (S:=(λ_:World=>True)) QX trivial (λhHeld=>?_);refine tk_ 0 ?_ rfl ?_ ?_;rotate_left
      .exact Yt
      simp only[Act.put];refine tk_ 2 ?_ rfl ?_ ?_;rotate_left
      .exact Yt
      simp only[Act.put];refine wpAnyH_ready (rs:=[1,3]) QX Q1 ?_;refine AllReadyH.cons rfl (λK hK=>?_) ?_
      .go_simp;refine hK.out _ _ trivial (λhHeld=>?_);clear hK K;try simp only[sq_]
       refine rd_ 3 rfl λK hK=>?_;exact Zb
      exact acg
     |some M=>
      obtain⟨t,s3⟩:=M;have K3:=hid_ P;clear P;obtain⟨i0,hi0,hz0,hz1,hz2⟩:=info_parts rY
      have ag:Hid (∀w6,cu w6 B s3->Ate B w5.drew w6->w6.cell? ⟨x,1,none⟩=some u/\(w6.alloc (.cells #[.bool t.var,t.n] 100)).cell? ⟨x,1,none⟩=some u/\Hid (dT (w6.alloc (.cells #[.bool t.var,t.n] 100)) x f u/\dT (w6.alloc (.cells #[.bool t.var,t.n] 100)) w (.int .i64 0) (.slice none 0 0)/\(w6.alloc (.cells #[.bool t.var,t.n] 100)).ownsRow w.heap.size 100 2 u j (dW ts)/\cu (w6.alloc (.cells #[.bool t.var,t.n] 100)) B s3/\Ate B w (w6.alloc (.cells #[.bool t.var,t.n] 100)))/\Hid (w.heap.size<=w6.heap.size+1/\(w6.alloc (.cells #[.bool t.var,t.n] 100)).heap.size=w6.heap.size+1)):=λw6 ad ha=>by
       have v:=HI.out.a (HA5.out.a ((Ate.b B w5).a ha)) hB Q0 ad;have o:Ate B w6 (w6.alloc (.cells #[.bool t.var,t.n] 100)):=Ate.c (bH _ _) (le_of_lt (iy ad));have aq:=HI.out.a (HA5.out.a ((Ate.b B w5).a (ha.a o))) hB Q0 (ji ad (bH w6 (.cells #[.bool t.var,t.n] 100)));refine⟨v.1.a.2.1,aq.1.a.2.1,aq,?_,size_alloc _ _⟩;have:=v.2.2.2.2.d;omega
      have a6:j<=4096:=Tr;have a4:=trivial
      have HT:Hid (Calls prog 109 #[.pointer (some ⟨B,0,none⟩)] w5.drew (gD B w5.drew (some (t,s3)) λt l _=>l=.agg #[.bool t.var,t.n])):=by
       exact abm
      refine wp_region_noPanic ?_;refine wp_region_held_drew (S:=(λ_:World=>True)) QX trivial (λhHeld=>?_);refine tk_ 0 ?_ rfl ?_ ?_;rotate_left
      .exact Yt
      simp only[Act.put];refine tk_ 2 ?_ rfl ?_ ?_;rotate_left
      .exact Yt
      simp only[Act.put];refine wpAnyH_ready (rs:=[1,3]) QX Q1 ?_;refine AllReadyH.cons rfl (λK hK=>?_) ?_
      .go_simp;refine hK.out _ _ trivial (λhHeld=>?_);clear hK K;try simp only[sq_]
       refine rd_ 3 rfl λK hK=>?_;go_simp;refine HT.out.mono ?_;intro e w6 h6;obtain⟨l,rfl,rfl,hx6⟩:=h6.a;clear h6;obtain⟨q6,qV,HV,HSE⟩:=ag w6 hx6.out.1 hx6.out.2;exact aeH
      refine AllReadyH.cons rfl (λK hK=>?_) AllReadyH.nil;go_simp;refine HT.out.mono ?_;intro e w6 h6;obtain⟨l,rfl,rfl,hx6⟩:=h6.a;clear h6;obtain⟨q6,qV,HV,HSE⟩:=ag w6 hx6.out.1 hx6.out.2;refine hK.out _ _ trivial (λhHeld=>?_);clear hK K;try simp only[sq_]
      refine wpAnyH_ready (rs:=[1,4]) QX Q1 ?_;refine AllReadyH.cons rfl (λK hK=>?_) ?_
      .go_simp;exact aeH
      refine AllReadyH.cons rfl (λK hK=>?_) AllReadyH.nil;go_simp;refine hK.out _ _ trivial (λhHeld=>?_);clear hK K;try simp only[sq_]
      refine rd_ 1 rfl λK hK=>?_;exact ad_
   obtain rfl:j=i:=Q0;have aP:¬(j:Int)<ap:=Q0
   have ah:Hid (iu j 0 p=some (ts,q)):=by
    show _=_;rw[HI.out.args,Nat.sub_self];simp[iu]
   have ai:Hid (∀u,nG ts q=some u->eH g s=some (⟨(f:Int),ts⟩,u)):=λu aO=>by
    unfold eH;rw[K0.out];simp only[Option.bind_some];rw[K1.out];simp only[Option.bind_some];rw[HAR.out,ah.out];simp only[Option.bind_some];rw[aO];rfl
   have bb:=HI.out.out.b;obtain⟨A,C,rfl⟩:=gk HI.out.own;by_cases aa:j=0
   .have aU:¬(0:Int)<(j:Int):=Q0;obtain⟨F,G,H,I⟩:=HI.out.box.a;obtain⟨d0,d1,aL,aM⟩:=HI.out.out.a;have U:=bK (ai q (by unfold nG;rw[if_pos (List.eq_nil_of_length_eq_zero (by rw[HI.out.many];exact aa))]));have W:Hid (dY w ((wr.setCell w f).setCell ⟨w,1,none⟩ (.slice A j C)) (.slice A j C) ts):=Ej HI.out.out HI.out.own HI.out.many Tr;clear aa;go_wp2_with fail;exact bodyPost_ret (v:=.agg #[f,.slice A j C]) Ty rfl (lU U (gE (gE HI.out.ate (le_refl _) hB) (le_refl _) hB) ⟨_,rfl,W.out⟩ (fP (fP HI.out.rest Q0) Q0))
   have aU:(0:Int)<(j:Int):=Q0;have bc:0<j:=Q0;obtain⟨F,G,H,I⟩:=HI.out.box.a;have k:=oC wr B q [41] HI.out.rest;go_wp2_with fail;refine k.mono ?_;clear k;intro e w5 m;have O:ts≠[]:=by intro e;have:=HI.out.many;rw[e] at this;exact aa this.symm
   cases he:bT [41] q with
   |none=>
    rw[he,map_none] at m;obtain⟨rfl,ha⟩:=m.b
    have HNO:Hid (eH g s=none):=by
     show _=_;unfold eH;rw[K0.out];simp only[Option.bind_some];rw[K1.out];simp only[Option.bind_some];rw[HAR.out,ah.out];simp only[Option.bind_some];unfold nG;rw[if_neg O,he];rfl
    clear he O;exact Zq
   |some a1=>
    rw[he,map_some] at m;obtain⟨l,rfl,rfl,y⟩:=m.a;clear m;have U:=bK (ai a1 (by unfold nG;rw[if_neg O,he]));clear he O F G H I;obtain⟨az,af,aA,aB,aC⟩:=HI.out.a y.out.2 hB Q0 y.out.1;obtain⟨F,G,H,I⟩:=az.a;obtain⟨d0,d1,aL,aM⟩:=af.a;have HR5:=bK aB;have HA5:=bK aC;have W:Hid (dY w ((w5.setCell w f).setCell ⟨w,1,none⟩ (.slice A j C)) (.slice A j C) ts):=Ej af aA HI.out.many Tr;clear az af aA aB aC y;go_wp2_with fail;exact bodyPost_ret (v:=.agg #[f,.slice A j C]) Ty rfl (lU U (gE (gE HA5 (le_refl _) hB) (le_refl _) hB) ⟨_,rfl,W.out⟩ (fP (fP HR5 Q0) Q0))
theorem yq(b:World)(f a k)(d:bR b f a)(c:k<a.length):Calls prog 67 #[f,k] b λe h=>e=.returned (.bool (!decide (bJ a (k:Int)=0)))/\h=b:=by
 obtain⟨p,r,q,rfl,l,m,n,o⟩:=cN d c;have j:(k:Int)<(a.length:Int):=Q0;have i:(0:Int)<=(k:Int):=Q0;have g:Hid (bJ a (k:Int)=a[k].kind):=by show _=_;unfold bJ;simp[c]
 clear d;generalize a[k].kind=s at*;go_enter func67,ntmps67;go_wp2_with fail;go_ret;exact⟨by rw[g.out];rfl,rfl⟩
def fw(w:World)(b:Nat)(x0 x1 x2 x3 x4:Value):Prop:=w.heap[b]? =some (.cells #[x0,x1,x2,x3,x4] 58 (0,0))
theorem fw.c{b a}{f g:World}{h i j k l}(d:fw f a h i j k l)(m:Ate b f g)(n:a≠b):fw g a h i j k l:=(m.e n (Array.getElem?_eq_some_iff.1 d).1).trans d
theorem fw.a{b}{c:World}{d f g i j}(h:fw c b d f g i j):c.cell? b=some d/\c.cell? ⟨b,1,none⟩=some f/\c.cell? ⟨b,2,none⟩=some g/\c.cell? ⟨b,3,none⟩=some i/\c.cell? ⟨b,4,none⟩=some j/\∀k,c.frozen? ⟨b,k,none⟩=false:=by
 unfold fw at h;exact ad7
theorem fw.d{a}{b:World}{f g h i j}(c:fw b a f g h i j):a<b.heap.size:=(Array.getElem?_eq_some_iff.1 c).1
theorem fw.f{a}{c:World}{d g k h i}(j:fw c a d g k h i)(b):fw (c.setCell ⟨a,2,none⟩ b) a d g b h i:=heap_setCell_same c a 2 _ _ b j
theorem fw.g{a}{c:World}{d f h k i}(j:fw c a d f h k i)(b):fw (c.setCell ⟨a,3,none⟩ b) a d f h b i:=heap_setCell_same c a 3 _ _ b j
theorem fw.h{a}{c:World}{d f g i k}(j:fw c a d f g i k)(b):fw (c.setCell ⟨a,4,none⟩ b) a d f g i b:=heap_setCell_same c a 4 _ _ b j
theorem fw.b{a c k}{d:World}{f g h i j n}(l:fw d a f g h i j)(m:c≠a):fw (d.setCell ⟨c,k,none⟩ n) a f g h i j:=by
 unfold fw;rw[h_ m];exact l
theorem fh.f{c n e}{g:World}{r s t u v}(h:fw g c r s t u v)(d:58≠e)(l m o p w):fh e n g (((((g.setCell c l).setCell ⟨c,1,none⟩ m).setCell ⟨c,2,none⟩ o).setCell ⟨c,3,none⟩ p).setCell ⟨c,4,none⟩ w):=by
 have i:=heap_setCell_same g c 0 _ _ l h;have j:=heap_setCell_same _ c 1 _ _ m i;have k:=heap_setCell_same _ c 2 _ _ o j;have q:=heap_setCell_same _ c 3 _ _ p k;exact(fh.a h d).b ((fh.a i d).b ((fh.a j d).b ((fh.a k d).b (fh.a q d))))
def se(n:Nat)(r:Rul)(v:Value)(w':World):Prop:=∃hv bv,v=.agg #[r.head.pred,hv,r.src,r.n,bv]/\dY n w' hv r.head.args/\iN n w' bv r.body
def sP(w:World)(B:Nat):Nat:=match w.cell? B with
 |some (.string t)=>t.size
 |_=>0
theorem ix{b:World}{a s}(c:cu b a s):sP b a=s.length:=by
 unfold sP;rw[sQ c];simp only;exact du s
structure aY (w:World) (B N:Nat) (ps:List Prd) (s0:List UInt8) (x0 x1 x2 x3:Value) (hd:List Tm) (wr:World) (j:Nat) (ls:List LV) (u:Value) (sj:List UInt8):Prop where
 many:ls.length=j
 box:fw wr N x0 x1 x2 x3 u
 out:fw wr w.heap.size (.int .i64 0) (.slice none 0 0) (.int .i64 0) (.int .i64 0) (.slice none 0 0)
 head:dY w wr x1 hd
 own:wr.ownsRow w.heap.size 103 3 u j (d9 ls)
 lits:∀x∈ls,dY w wr x.av x.l.atom.args
 rest:cu wr B sj
 ate:Ate B w wr
 len:sj.length+j<=s0.length
 body:f7 ps s0 0 s0=(f7 ps sj j sj).bind λy=>some (ls.map LV.l++y.1,y.2)
structure aZ (w:World) (B N:Nat) (x0 x1 x2 x3:Value) (hd:List Tm) (wr:World) (j:Nat) (ls:List LV) (u:Value) (s':List UInt8):Prop where
 box:fw wr N x0 x1 x2 x3 u
 out:fw wr w.heap.size (.int .i64 0) (.slice none 0 0) (.int .i64 0) (.int .i64 0) (.slice none 0 0)
 head:dY w wr x1 hd
 own:wr.ownsRow w.heap.size 103 3 u j (d9 ls)
 lits:∀x∈ls,dY w wr x.av x.l.atom.args
 rest:cu wr B s'
 ate:Ate B w wr
theorem aY.a{g:World}{f h v w p q r s k}{wr j:World}{l m o x n}(b:aY g f h v w p q r s k wr l m o x)(d:Ate f wr j)(i:f<g.heap.size)(z:g.heap.size<=h)(t:cu j f n):aZ g f h p q r s k j l m o n:=
 ⟨b.box.c d Q0,b.out.c d Q0,b.head.a (fh.e d i),vl b.own d i,λy u=>(b.lits y u).a (fh.e d i),t,b.ate.a d⟩
theorem yg:∀(l:List LV) (a:LV),d9 (l++[a])=d9 l++[.bool a.l.neg,.int .i64 a.l.atom.pred,a.av]
 |[],a=>rfl
 |y::l,a=>by simp only[cons_append,d9,yg l a]
theorem mr{f:World}{b c d g}:∀(i:Nat) (a:Value),[b,c,d][i]? =some a->(f.alloc (.cells #[b,c,d] g)).cell? ((⟨f,0,none⟩:Addr).add i)=some a:=by
 intro i a hv;match i,hv with
 |0,hv=>
  obtain rfl:b=a:=RX;simp[go_sem]
 |1,hv=>
  obtain rfl:c=a:=RX;simp[go_sem]
 |2,hv=>
  obtain rfl:d=a:=RX;simp[go_sem]
 |i+3,hv=>simp at hv
theorem aar(h:p:=by
 intro x hx
 rcases mem_append.1 hx with hx|hx
 .exact(hV.lits x hx).a kt
 rw[mem_singleton] at hx
 subst hx
 exact hA.a kt):p:=h
theorem yx{k:World}{q g:Nat}{m:List Prd}{w:List UInt8}{C D E F:Value}{K:List Tm}{c:Nat}{o:List LV}{y:Value}{j p f:List UInt8}{s:Atm}{z:Value}{B:Bool}{r i:World}{v u:Nat}(T:o.length=c)(ae:j.length+c<=w.length)(R:f7 m w 0 w=(f7 m j c j).bind λG=>some (o.map LV.l++G.1,G.2))(H:bT (gp c) j=some p)(P:(bT [33] p).isSome=B)(I:eH m ((bT [33] p).getD p)=some (s,f))(J:q<k.heap.size)(ad:k.heap.size<g)(hV:aZ k q g C D E F K r c o y f)(hA:dY k r z s.args)(n:r.grownBy i y.ownBlock)(Q:i.ownsRow k.heap.size 103 3 (.slice (some ⟨v,0,none⟩) (c+1) u) (c+1) (d9 o++[.bool B,.int .i64 s.pred,z])):i.cell? ⟨g,4,none⟩=some y/\i.frozen? ⟨g,4,none⟩=false/\Hid (f.length<j.length/\aY k q g m w C D E F K (i.setCell ⟨g,4,none⟩ (.slice (some ⟨v,0,none⟩) (c+1) u)) (c+1) (o++[⟨⟨B,s⟩,z⟩]) (.slice (some ⟨v,0,none⟩) (c+1) u) f):=by
 have t:fw i g C D E F y:=jg n hV.box (iv hV.own hV.box QY);have L:=jg n hV.out (iv hV.own hV.out QY);have M:cu i q f:=jg n hV.rest (iv hV.own hV.rest QY);have N:=Ek hV.ate n (oG hV.own) J;have af:=hV.ate.d;obtain⟨V,W,X,Y,O,S⟩:=t.a;have Z:=fU H;have aa:=uP c;have ab:=uW p;have ac:=sh I;have kt:fh 100 k r (i.setCell ⟨g,4,none⟩ (.slice (some ⟨v,0,none⟩) (c+1) u)):=(fh.d n hV.own QY).b (fh.a t QY);refine⟨O,S 4,Q0,?_,t.h _,fw.b L Q0,hV.head.a kt,?_,?_,fP M Q0,gE N Q0 J,Q0,?_⟩
 .simp[T]
 .rw[yg];exact jE Q t QY
 .exact aar
 rw[R];obtain⟨A,U⟩:∃A,j.length=A+1:=⟨j.length-1,Q0⟩;rw[U,f7,H];simp only;rw[I,Option.bind_some];simp only;rw[MW m A f (c+1) f Q0 Q0,P];cases f7 m f (c+1) f with
 |none=>rfl
 |some G=>simp
theorem MV{d b a}(c:bT (gp b) a=none):f7 d a b a=some ([],a):=by
 cases f:a.length with
 |zero=>rfl
 |succ g=>rw[f7,c]
theorem MU{g b a c}(d:bT (gp b) a=some c)(h:eH g ((bT [33] c).getD c)=none):f7 g a b a=none:=by
 have j:=fU d;have k:=uP b;obtain⟨f,i⟩:∃f,a.length=f+1:=⟨a.length-1,Q0⟩;rw[i,f7,d];simp only;rw[h];rfl
theorem Es(a):∀(x:List UInt8) (b:List (List UInt8)),[a].intercalate (x::b)=x++b.flatMap λc=>a::c
 |x,[]=>S9
 |x,c::b=>by
  have ih:=Es a c b
  have e:[a].intercalate (x::c::b)=x++[a]++[a].intercalate (c::b):=S_
  rw[e,ih]
  simp
theorem DM:∀(a:List Tm) (k:Nat),dS a (k+1)=(a.map λt=>bG (dO t)).flatMap λb=>44::b
 |[],k=>rfl
 |t::a,k=>by
  rw[dS,DM a (k+1)]
  simp
theorem MJ(c a)(h:a.args≠[]):ei c a.pred++⟨#[40]⟩++mU ⟨#[44]⟩ (a.args.map dO)++⟨#[41]⟩=dr c a:=by
 apply kj;rw[lQ];obtain⟨k,j,i⟩:=List.exists_cons_of_ne_nil h;unfold c_;rw[i];simp only[d_,mU,de,List.map_cons];have d:bG (⟨#[44]⟩:ByteArray)=[44]:=rfl;have f:bG (⟨#[40]⟩:ByteArray)=[40]:=rfl;have g:bG (⟨#[41]⟩:ByteArray)=[41]:=rfl;rw[d,f,g,Es,dS];have b:=DM j 0;rw[zero_add] at b;simp[b,map_map,Function.comp_def]
theorem MH(b a)(c:a.args=[]):ei b a.pred=dr b a:=by
 unfold dr;rw[c,if_neg Q1];rfl
theorem Nm(d:World)(X K f b)(e:Nat)(ar:bR d X f)(S:cr d K b.args)(M:b.pred=(e:Int))(N:e<f.length)(C:∀r∈b.args,0<=r.n/\r.n<=25)(P:(ei f b.pred).size<=8)(an:b.args.length<=5):Calls prog 53 #[X,.agg #[b.pred,K]] d λe aE=>e=.returned (.string (dr f b))/\Below d d aE:=by
 have ab:=lt_ S;obtain⟨aQ,aS,aR,rfl,au,F,V,W⟩:=cN ar N;obtain⟨y,z,rfl,aH,_⟩:=S;have w:Hid (ei f b.pred=f[e].name):=by show _=_;rw[ei,M,Int.toNat_natCast,List.getElem?_eq_getElem N];rfl
 have aq:f[e].name.size<=8:=by rw[<-w.out];exact P
 have aI:(e:Int)<(f.length:Int):=Q0;have aa:=hid_ C;rw[M];obtain⟨k,hW1⟩:=ex_ (d.alloc (.cells #[e,.slice y b.args z] 55));have l:Below d d k:=RT;have av:=(bF l au).trans F;have ag:k.cell? d=some (.int .i64 (e:Int)):=RU;have L:k.cell? ⟨d,1,none⟩=some (.slice y b.args z):=RU;have Q:k.heap.size=d.heap.size+1:=RW;by_cases o:b.args.length=0
 .have v:Hid (f[e].name=dr f b):=by show _=_;rw[<-w.out];exact MH f b (List.eq_nil_of_length_eq_zero o)
  have ak:((b.args.length:Int)==0)=true:=by rw[beq_iff_eq];omega
  have Z:=bK l;clear F V W C o l;generalize f[e].name=aw at*;go_enter func53,ntmps53;go_wp2_with fail;go_ret;exact⟨by rw[<-v.out];rfl,Z.out⟩
 have ak:((b.args.length:Int)==0)=false:=by rw[beq_eq_false_iff_ne];omega
 obtain⟨g,q⟩:=ex_ (b.args.map dO);have U:g.length=b.args.length:=by rw[<-q,length_map]
 have I:Hid (((bG ⟨#[44]⟩).intercalate (g.map bG)).length<=1000):=by
  show _<=_;have al:=sE (bG ⟨#[44]⟩) (g.map bG)
  have aG:((g.map bG).map List.length).sum<=g.length*2:=by
   rw[map_map];refine yN _ 2 g λaW T=>?_;rw[<-q] at T;obtain⟨r,_,rfl⟩:=List.mem_map.1 T;show(bG (dO r)).length<=2;rw[cD];exact DJ r
  have ai:(bG (⟨#[44]⟩:ByteArray)).length=1:=rfl;rw[length_map,ai] at al;omega
 obtain⟨m,s⟩:∃m:ByteArray,(⟨((bG ⟨#[44]⟩).intercalate (g.map bG)).toArray⟩:ByteArray)=m:=⟨_,rfl⟩;have am:m.size<=1000:=by rw[<-s];show(bN _).size<=1000;rw[du];exact I.out
 have v:Hid (f[e].name++⟨#[40]⟩++m++⟨#[41]⟩=dr f b):=by
  show _=_;rw[<-MJ f b (by intro aj;rw[aj] at o;exact o rfl),<-w.out,<-s,q];rfl
 have ap:=@EL _ an;have aF:=bK l;obtain⟨x,t⟩:=ex_ (k.alloc (.cells (Array.replicate b.args (.string ⟨#[]⟩)) 9));have A:Below k k x:=by rw[<-t];exact bH _ _
 have G:=hid_ (l.trans (A.mono l.size));have R:d.heap.size+1<x.heap.size:=by rw[<-t];simp[Q]
 have J:Hid (dq x (d.heap.size+1) ((g.map ks).take 0++replicate (g.length-0) (.string ⟨#[]⟩))):=by
  show dq _ _ _;rw[<-t,List.take_zero,List.nil_append,U,Nat.sub_zero,<-List.toArray_replicate,<-Q];exact oY
 have ah:=(bF A Q0).trans L;have aN:¬9223372036854775807<f[e].name.size+1:=Q0;have aO:¬9223372036854775807<f[e].name.size+1+m.size:=Q0;have aP:¬9223372036854775807<f[e].name.size+1+m.size+1:=Q0;have ae:=bK q;clear F V W C aq P l A am o q;generalize f[e].name=aw at*;go_enter func53,ntmps53;go_wp2_with fail;clear hW1 t ap ag L av ah;go_loopw [27] (λD wr=>∃c:Nat,c<=b.args.length/\D=.int .i64 c/\Hid (dq wr (d.heap.size+1) ((g.map ks).take c++replicate (g.length-c) (.string ⟨#[]⟩))/\Below d d wr/\d.heap.size+1<wr.heap.size)) (λD _=>b.args.length-(intOf D).toNat)
 case atStart=>exact⟨0,zero_le _,rfl,J.out,G.out,R⟩
 clear J G R;obtain⟨c,aJ,rfl,i⟩:=hrel;by_cases O:c<b.args.length
 .obtain⟨aB,aD,aC,hv,aM,aV,aA⟩:=cN (ab wr i.out.2.1) O;obtain⟨rfl,rfl⟩:y=some ⟨aB,aD,none⟩/\z=aC:=RX;have aL:(c:Int)<(b.args.length:Int):=Q0;have aK:(0:Int)<=(c:Int):=Q0;obtain⟨ax,ay⟩:=aa _ (List.getElem_mem O);obtain⟨E,B⟩:∃E:Nat,b.args[c].n=(E:Int):=⟨b.args[c].n.toNat,Q0⟩;rw[B] at aA;have ac:=hid_ (λaf=>yU af b.args[c] E B Q0)
  have ad:Hid (∀j,Below wr wr j->j.cell? ⟨d.heap.size+1,c,none⟩=some (.string ⟨#[]⟩)/\j.frozen? ⟨d.heap.size+1,c,none⟩=false/\Hid (dq (j.setCell ⟨d.heap.size+1,c,none⟩ (.string (dO b.args[c]))) (d.heap.size+1) ((g.map ks).take (c+1)++replicate (g.length-(c+1)) (.string ⟨#[]⟩))/\Below d d (j.setCell ⟨d.heap.size+1,c,none⟩ (.string (dO b.args[c])))/\d.heap.size+1<(j.setCell ⟨d.heap.size+1,c,none⟩ (.string (dO b.args[c]))).heap.size)):=λj h=>by
   have u:=E9 (j:=c) Q0 (i.out.1.a h i.out.2.2);have e:g[c]' Q0=dO b.args[c]:=by have:=ae.out;subst this;simp
   rw[e] at u;have ao:=bt_ i.out.2.1 h;refine⟨u.1,u.2.1,u.2.2,ao.setCell (p:=⟨d.heap.size+1,c,none⟩) (by show d.heap.size<=d.heap.size+1;omega) _,?_⟩;rw[cF];have:=h.size;have:=i.out.2.2;omega
  clear hv B ax ay;generalize b.args[c]=aX at*;go_wp2_with fail;refine mo_ (ac _) λY h=>?_;obtain⟨aT,aU,az⟩:=ad Y (cU (bH _ _) h);clear h;go_wp2_with fail;go_roundw
  case rel=>exact⟨c+1,Q0,Rv,az⟩
  exact S6
 have H:=Ev (d.heap.size+1) 0 b.args g ⟨#[44]⟩ wr (Fi (n:=g.length) (by have:=i.out.1;rwa[show g.length-c=0 by omega,List.replicate_zero,append_nil,show c=g.length by omega] at this) rfl) i.out.2.2 Q0 Q0 (by have:=I.out;omega);rw[U,s] at H;obtain rfl:c=b.args.length:=Q0;clear s;go_wp2_with(go_at_call 86;refine mo_ H λY h=>?_;replace h:Hid _:=h);go_ret;exact⟨by rw[<-v.out];rfl,i.out.2.1.trans (h.out.mono i.out.2.1.size)⟩
theorem vD(a:World)(n b:Nat):dD (a.alloc (.cells #[n,b] 3)) (.slice (some ⟨a,0,none⟩) 2 2) [n,b]:=
 wZ (B:=a.heap.size) (cap:=2) (l:=[n,b]) (oY (w:=a) (vs:=[.int .i64 (n:Int),.int .i64 (b:Int)]) (t:=3)) Q1 Q1
theorem EQ(c:World)(f n a b)(j:dD c f [n,a])(o:n<=99)(m:a<=99)(k:b.size<=100):Calls prog 34 #[.string b,f] c λe l=>e=.returned (.string (b_ n++b++b_ a))/\Below c c l:=by
 have g:=yG c b f [n,a] (λa=>b_ a) j Q1 k (λa q=>by have:=gF a;omega) (λd h i _=>by
  have p:d<=99:=by
   simp only[List.mem_cons,not_mem_nil,or_false] at h;rcases h with rfl|rfl<;>assumption
  refine mq_ (Eu d Q0 Q0 i) ?_
  exact⟨rfl,Below.refl _ _⟩)
 have e:mU b ([n,a].map λd:Nat=>b_ d)=b_ n++b++b_ a:=by
  apply kj;simp[mU,de,d_,intercalate]
 rw[e] at g;exact g
def lw(ps:List Prd)(r:Rul):ByteArray:=bN (eI ps r)
theorem Tz(h:p:=by simp[hkd]):p:=h
theorem afe(h:p:=by
 go_enter func54,ntmps54
 go_wp2_with(first|(go_at_call 67;refine mo_ HC λw1 hw1=>?_;obtain rfl:=hw1.symm)|(go_at_call 34;refine mo_ HN λw2 hb=>?_;replace hb:Hid _:=hb))
 go_ret
 exact⟨RZ,HB1.out.trans ((cU (bH _ _) hb.out).mono HB1.out.size)⟩):p:=h
theorem PX(g:World)(m s p f b)(x:bR g m f)(z:∃e:Nat,b.head.pred=(e:Int)/\e<f.length)(G: -1<=b.src/\b.src<=99)(F:0<=b.n/\b.n<=99):Calls prog 54 #[m,.agg #[b.head.pred,s,b.src,b.n,p]] g λe C=>e=.returned (.string (lw f b))/\Below g g C:=by
 obtain⟨B,k,w⟩:=z;obtain⟨h,hW1⟩:=ex_ (g.alloc (.cells #[b.head.pred,s,b.src,b.n,p] 58));have o:Below g g h:=RT;have HB1:=bK o;have HC:=yq h m f B (bR.a o x) w;rw[<-k] at HC;have t:h.cell? g=some (.int .i64 b.head.pred):=RU;have u:h.cell? ⟨g,2,none⟩=some (.int .i64 b.src):=RU;have q:h.cell? ⟨g,3,none⟩=some (.int .i64 b.n):=RU;have E:=t;obtain⟨c,i⟩:∃c:Nat,b.n=(c:Int):=⟨b.n.toNat,Q0⟩;by_cases hkd:bJ f b.head.pred=0
 .have HE:Hid (lw f b=⟨#[]⟩):=by show _=_;unfold lw eI;rw[if_pos hkd];rfl
  have j:(!decide (bJ f b.head.pred=0))=false:=Tz;rw[j] at HC;clear j hkd k i;go_enter func54,ntmps54;go_wp2_with(go_at_call 67;refine mq_ HC ?_);go_ret;exact⟨RZ,HB1.out⟩
 have j:(!decide (bJ f b.head.pred=0))=true:=Tz;rw[j] at HC;clear j;by_cases y:b.src<0
 .have HE:Hid (lw f b=⟨#[32,61,32]⟩++b_ c):=by
   show _=_;apply kj;unfold lw eI;rw[if_neg hkd,if_neg Q0,de,d_,i];rfl
  have HN:=yF (h.alloc (.cells #[c] 3)) _ c ⟨#[]⟩ (sK h c) Q0 QY;have A:¬9223372036854775807<3+(b_ c).size:=by have:=gF c;omega
  rw[i] at q hW1⊢;clear hkd k i;exact afe
 obtain⟨d,l⟩:∃d:Nat,b.src=(d:Int):=⟨b.src.toNat,Q0⟩
 have HE:Hid (lw f b=⟨#[32,61,32,35]⟩++(b_ d++⟨#[43]⟩++b_ c)):=by
  show _=_;apply kj;unfold lw eI;rw[if_neg hkd,if_pos Q0,de,d_,d_,d_,i,l];have v:bG (⟨#[32,61,32,35]⟩:ByteArray)=[32,61,32,35]:=rfl;have r:bG (⟨#[43]⟩:ByteArray)=[43]:=rfl;rw[v,r];simp
 have HN:=EQ (h.alloc (.cells #[d,c] 3)) _ d c ⟨#[43]⟩ (vD h d c) Q0 Q0 QY
 have A:¬9223372036854775807<4+(b_ d++⟨#[43]⟩++b_ c).size:=by
  have:=gF d;have:=gF c;have r:(⟨#[43]⟩:ByteArray).size=1:=rfl;rw[size_append,size_append];omega
 have H:¬(d:Int)<0:=Q0;generalize b_ d++⟨#[43]⟩++b_ c=D at*;rw[i] at q hW1⊢;rw[l] at u hW1⊢;clear hkd k i l y;exact afe
theorem qt{b}(c:∀d∈b,d.name.size<=8){a}(f:a.args.length<=2):(dr b a).size<=15:=by
 have:=DS (oD c a.pred);omega
theorem yQ(a:World)(g d c b)(k:bR a g c)(l:cr a d b.args)(j:∀m∈c,m.name.size<=8)(f:aP c b):Calls prog 53 #[g,.agg #[b.pred,d]] a λe n=>e=.returned (.string (dr c b))/\Below a a n:=by
 obtain⟨e,h,i⟩:=f.there;exact Nm a g d c b e k l h i f.terms (oD j _) (by have:=f.few;omega)
def nE(ps:List Prd)(ls:List Ltr):ByteArray:=bN (cW ps ls 0)
theorem MY{c:List Prd}{b:List Ltr}{a:Nat}(d:a<b.length):cW c (b.take (a+1)) 0=cW c (b.take a) 0++(gp a++(if b[a].neg then[33] else[])++c_ c b[a].atom):=by
 rw[List.take_succ_eq_append_getElem d,EI,List.length_take,Nat.min_eq_left Q0,zero_add];rfl
theorem PV(i:World)(D t f c)(y:bR i D f)(v:dC i t c)(x:∀Q∈f,Q.name.size<=8)(ad:c.length<=100)(u:∀l∈c,aP f l.atom):Calls prog 55 #[D,t] i λe R=>e=.returned (.string (nE f c))/\Below i i R:=by
 have H:=lp_ y;have G:=lb_ v;have s:=bK x;have F:=bK u;obtain⟨al,am,rfl,_⟩:=y;obtain⟨J,K,rfl,_⟩:=v;clear x u;go_enter func55,ntmps55;go_wp2_with fail;go_loopw [5,6,11] (λP I p wr=>∃(b:Nat) (g h:ByteArray),b<=c.length/\p=.int .i64 b/\P=.string g/\I=.string h/\g.size<=b*30/\h.size<=4/\Hid (bG g=cW f (c.take b) 0/\bG h=gp b/\Below i i wr)) (λ_ _ p _=>c.length-(intOf p).toNat)
 case atStart=>exact⟨0,_,_,zero_le _,rfl,rfl,rfl,QY,QY,rfl,rfl,Below.refl _ _⟩
 obtain⟨b,g,h,aa,rfl,rfl,rfl,Y,Z,d⟩:=hrel;by_cases o:b<c.length
 .obtain⟨M,O,N,hv,ae,w⟩:=cN (G wr d.out.2.2) o;obtain⟨rfl,rfl⟩:J=some ⟨M,O,none⟩/\K=N:=RX;obtain⟨B,aj,U,V,ak,C⟩:=w.a;have ac:(b:Int)<(c.length:Int):=Q0;have ab:(0:Int)<=(b:Int):=Q0;have n:=F _ (List.getElem_mem o);have r:=hid_ (λE z=>yQ E _ _ f _ (H E (d.out.2.2.trans (z.mono d.out.2.2.size))) (cr.a z C) s n);have X:=qt s n.few
  have k:Hid (cW f (c.take (b+1)) 0=cW f (c.take b) 0++(gp b++(if c[b].neg then[33] else[])++bG (dr f c[b].atom))):=by
   show _=_;rw[MY o,lQ]
  clear hv w C n;generalize dr f c[b].atom=q at*;generalize c[b]=T at*;have af:¬9223372036854775807<g.size+h.size:=Q0;have ag:¬9223372036854775807<g.size+h.size+1:=Q0;have ah:¬9223372036854775807<g.size+h.size+1+q.size:=Q0;have ai:¬9223372036854775807<g.size+h.size+q.size:=Q0;cases A:T.neg with
  |true=>
   rw[A] at B k;go_wp2_with fail;refine mo_ (r _ (bH _ _)) λS j=>?_;have m:=bK (cU (bH _ _) j);clear j;go_wp2_with fail;go_roundw
   case rel=>
    refine⟨b+1,_,_,Q0,Rv,rfl,rfl,?_,QY,?_,rfl,d.out.2.2.trans (m.out.mono d.out.2.2.size)⟩
    .simp only[size_append];have W:(⟨#[33]⟩:ByteArray).size=1:=rfl;omega
    rw[k.out,d_,d_,d_,d.out.1,d.out.2.1];have L:bG (⟨#[33]⟩:ByteArray)=[33]:=rfl;rw[L,if_pos trivial];simp
   exact S6
  |false=>
   rw[A] at B k;go_wp2_with fail;refine mo_ (r _ (bH _ _)) λS j=>?_;have m:=bK (cU (bH _ _) j);clear j;go_wp2_with fail;go_roundw
   case rel=>
    refine⟨b+1,_,_,Q0,Rv,rfl,rfl,?_,QY,?_,rfl,d.out.2.2.trans (m.out.mono d.out.2.2.size)⟩
    .simp only[size_append];omega
    rw[k.out,d_,d_,d.out.1,d.out.2.1];simp
   exact S6
 obtain rfl:b=c.length:=Q0
 have HE:Hid (nE f c=g):=by
  show _=_;unfold nE;have:=d.out.1;rw[List.take_length] at this;rw[<-this,gr]
 go_wp2_with fail;go_ret;exact⟨RZ,d.out.2.2⟩
theorem D6{a}(c:∀d∈a,d.name.size<=8):∀{ls:List Ltr},(∀l∈ls,aP a l.atom)->∀k,(cW a ls k).length<=ls.length*30
 |[],_,k=>by simp[cW]
 |l::ls,b,k=>by
  have ih:=D6 c (ls:=ls) (λf hx=>b f Rl) (k+1)
  have g:(c_ a l.atom).length<=15:=by rw[<-lQ,cD];exact qt c (b l Q1).few
  have h:(if k=0 then([32,58,45,32]:List UInt8) else[44,32]).length<=4:=by split<;>simp
  have i:(if l.neg then([33]:List UInt8) else[]).length<=1:=by split<;>simp
  simp only[cW,length_append,List.length_cons]
  omega
theorem Qc(b a):(lw b a).size<=20:=by
 unfold lw;rw[du];unfold eI;have c:=gF a.src;have d:=gF a.n;split
 .simp
 split<;>simp only[length_append,cD,List.length_cons,length_nil]<;>omega
theorem EF(b):∀(n a:Nat) (s:List UInt8),s.length<n->s.length<a->jD b n s=jD b a s
 |0,_,s,c,_=>Q0
 |_+1,0,s,_,c=>Q0
 |n+1,a+1,s,g,h=>by
  rw[jD,jD]
  obtain⟨_,_,f⟩:=je (p:=[44,32]) Q1 s
  cases d:(bY [44,32] s).2.2 with
  |false=>rfl
  |true=>
   have:=f d
   simp only[if_true]
   rw[EF b n a _ Q0 Q0]
def lW(ps:List Prd)(b:Bool)(A:ByteArray):List Ltr:=if b then jD ps (A.size+1) (bG A) else[]
structure aw (w:World) (N:Nat) (x0 x1 x2 x3:Value) (hd:List Tm) (wr:World) (ls:List LV) (u:Value):Prop where
 box:fw wr N x0 x1 x2 x3 u
 out:fw wr w.heap.size (.int .i64 0) (.slice none 0 0) (.int .i64 0) (.int .i64 0) (.slice none 0 0)
 head:dY w wr x1 hd
 own:wr.ownsRow w.heap.size 103 3 u ls (d9 ls)
 lits:∀x∈ls,dY w wr x.av x.l.atom.args
 below:Below w w wr
theorem fw.e{a}{b f:World}{g h i j k}(c:fw b a g h i j k)(l:Below b b f):fw f a g h i j k:=(l.block a c.d).trans c
theorem aw.a{j:World}{f l m n o g}{wr k:World}{h i}(b:aw j f l m n o g wr h i)(d:Below wr wr k):aw j f l m n o g k h i:=
 ⟨b.box.e d,b.out.e d,b.head.a (fh.c d),gC b.own d,λq p=>(b.lits q p).a (fh.c d),b.below.trans (d.mono b.below.size)⟩
theorem OS(n)(a:World):dY n a (.slice none 0 0) []:=⟨Q1,rfl,.inl ⟨rfl,rfl⟩⟩
theorem aw.e{w:World}{N j k o l g}{wr:World}{h i}(c:aw w N j k o l g wr h i)(q:w.heap.size<N)(d):aw w N j k d l g (wr.setCell ⟨N,2,none⟩ d) h i:=
 ⟨c.box.f d,c.out.b Q0,c.head.a (fh.a c.box QY),jE c.own c.box QY,λn m=>(c.lits n m).a (fh.a c.box QY),c.below.setCell (p:=⟨N,2,none⟩) Tg _⟩
theorem aw.b{w:World}{N j k l o f}{wr:World}{h i}(c:aw w N j k l o f wr h i)(q:w.heap.size<N)(d):aw w N j k l d f (wr.setCell ⟨N,3,none⟩ d) h i:=
 ⟨c.box.g d,c.out.b Q0,c.head.a (fh.a c.box QY),jE c.own c.box QY,λn m=>(c.lits n m).a (fh.a c.box QY),c.below.setCell (p:=⟨N,3,none⟩) Tg _⟩
theorem aw.d{w:World}{N r s k l n}{wr:World}{j i}(c:aw w N r s k l n wr [] j)(t:w.heap.size<N)(h f)(q:dY w wr f i):aw w N h f k l i ((wr.setCell N h).setCell ⟨N,1,none⟩ f) [] j:=by
 have g:=heap_setCell_same wr N 0 _ _ h c.box;have m:=heap_setCell_same _ N 1 _ _ f g;refine⟨m,(c.out.b Q0).b Q0,q.a ((fh.a c.box QY).b (fh.a g QY)),jE (jE c.own c.box QY) g QY,(λu o=>absurd o (not_mem_nil)),?_⟩;exact(c.below.setCell (p:=⟨N,0,none⟩) Tg _).setCell (p:=⟨N,1,none⟩) Tg _
def nF(w:World)(b:Nat)(x y z:Value):Prop:=w.heap[b]? =some (.cells #[x,y,z] 103 (0,0))
theorem nF.b{a}{c f:World}{g h i}(d:nF c a g h i)(j:Below c c f):nF f a g h i:=(j.block a (Array.getElem?_eq_some_iff.1 d).1).trans d
theorem nF.a{b}{c:World}{d f g}(h:nF c b d f g):c.cell? b=some d/\c.cell? ⟨b,1,none⟩=some f/\c.cell? ⟨b,2,none⟩=some g/\c.frozen? b=false/\c.frozen? ⟨b,1,none⟩=false/\c.frozen? ⟨b,2,none⟩=false:=by
 unfold nF at h;exact ad7
theorem aw.c{h:World}{i d k q r s t F n}{wr:World}{o l u}(f:aw h i q r s t n wr o l)(g:wr.heap[d]? =some (.cells u 103 (0,0)))(G:h.heap.size<d)(D:some d≠l.ownBlock):aw h i q r s t n (wr.setCell ⟨d,k,none⟩ F) o l:=by
 have C:d≠i:=by rintro rfl;rw[f.box] at g;cases g
 refine⟨f.box.b C,f.out.b Q0,f.head.a (fh.a g QY),?_,λm E=>(f.lits m E).a (fh.a g QY),f.below.setCell (p:=⟨d,k,none⟩) (by show h.heap.size<=d;omega) _⟩;obtain⟨y,j⟩:=f.own;refine⟨y,?_⟩;rcases j with j|⟨x,v,w,rfl,z,A,B⟩
 .exact .inl j
 refine .inr ⟨x,v,w,rfl,z,?_,B⟩;rw[h_ (λm=>D (by subst m;rfl))];exact A
theorem OT{c:World}{d g n a e b h}(f:c.ownsRow d e g b n h)(i:c.heap.size<=a):some a≠b.ownBlock:=λe=>by
 have:=(f.lt a e.symm).2
 omega
theorem OE{w:World}{N o q r s t c m a n ng}{g f:World}{k j}(F:w.heap.size<N)(hV:aw w N o q r s t g c m)(hA:dY w g n a.args)(l:g.grownBy f m.ownBlock)(z:f.ownsRow w.heap.size 103 3 (.slice (some ⟨k,0,none⟩) (c.length+1) j) (c.length+1) (d9 c++[.bool ng,.int .i64 a.pred,n])):f.cell? ⟨N,4,none⟩=some m/\f.frozen? ⟨N,4,none⟩=false/\Hid (aw w N o q r s t (f.setCell ⟨N,4,none⟩ (.slice (some ⟨k,0,none⟩) (c.length+1) j)) (c++[⟨⟨ng,a⟩,n⟩]) (.slice (some ⟨k,0,none⟩) (c.length+1) j)):=by
 have i:fw f N o q r s m:=jg l hV.box (iv hV.own hV.box QY);have u:=jg l hV.out (iv hV.own hV.out QY);have v:=hV.below.grown l hV.below.size (oG hV.own);obtain⟨B,C,D,E,y,A⟩:=i.a;have kt:fh 100 w g (f.setCell ⟨N,4,none⟩ (.slice (some ⟨k,0,none⟩) (c.length+1) j)):=(fh.d l hV.own QY).b (fh.a i QY);refine⟨y,A 4,i.h _,fw.b u Q0,hV.head.a kt,?_,?_,v.setCell (p:=⟨N,4,none⟩) Tg _⟩
 .rw[yg,length_append];exact jE z i QY
 exact aar
theorem Pz{b:World}{s x r y z m}{wr:World}{k q}(c:aw b s x r y z m wr k q)(t:k.length<=4096)(d g h i j):dY b (((((wr.setCell b d).setCell ⟨b,1,none⟩ g).setCell ⟨b,2,none⟩ h).setCell ⟨b,3,none⟩ i).setCell ⟨b,4,none⟩ j) r m/\ iN b (((((wr.setCell b d).setCell ⟨b,1,none⟩ g).setCell ⟨b,2,none⟩ h).setCell ⟨b,3,none⟩ i).setCell ⟨b,4,none⟩ j) q (k.map LV.l)/\ Below b b (((((wr.setCell b d).setCell ⟨b,1,none⟩ g).setCell ⟨b,2,none⟩ h).setCell ⟨b,3,none⟩ i).setCell ⟨b,4,none⟩ j):=by
 have o:=fh.f (n:=b.heap.size) (e:=100) c.out QY d g h i j;have v:=fh.f (n:=b.heap.size) (e:=103) c.out QY d g h i j;refine⟨c.head.a o,⟨k,rfl,t,pm c.own v,λw u=>(c.lits w u).a o⟩,?_⟩;exact((((c.below.setCell (p:=⟨b,0,none⟩) (le_refl _) _).setCell (p:=⟨b,1,none⟩) (le_refl _) _).setCell (p:=⟨b,2,none⟩) (le_refl _) _).setCell (p:=⟨b,3,none⟩) (le_refl _) _).setCell (p:=⟨b,4,none⟩) (le_refl _) _
theorem D5{a}(b:0<a.size):(bG a).head?=some a[0]:=by
 have c:=lP b;have d:0<(bG a).length:=by rw[cD];exact b
 rw[List.head?_eq_getElem?,List.getElem?_eq_getElem d,c]
theorem yw{i:World}{j m n o p k}{wr:World}{l h}(g:aw i j m n o p k wr l h)(b c f):aw i j m n o p k (wr.alloc (.cells #[b,c,f] 103)) l h/\nF (wr.alloc (.cells #[b,c,f] 103)) wr b c f/\some wr.heap.size≠h.ownBlock/\i.heap.size<wr.heap.size:=
 ⟨g.a (bH _ _),heap_alloc_new wr _,OT g.own (le_refl _),g.out.d⟩
theorem Py{a f d b k c n m g j h av}(u:lW a n m=f.map LV.l++lW a true b/\f.length+mv true b<=g)(s:jD a (b.size+1) (bG b)=jW a k::if d=true then jD a b.size c else[])(o:d=true->k.length+c.length<b.size)(t:jW a k=⟨j,h⟩):lW a n m=(f++[(⟨⟨j,h⟩,av⟩:LV)]).map LV.l++lW a d (bN c)/\(f++[(⟨⟨j,h⟩,av⟩:LV)]).length+mv d (bN c)<=g:=by
 obtain⟨q,r⟩:=u;have v:f.length+(b.size+1)<=g:=r;refine⟨?_,?_⟩
 .have p:lW a true b=jD a (b.size+1) (bG b):=rfl;rw[q,p,s,t];cases d with
  |true=>
   have:=o rfl;have i:lW a true (bN c)=jD a ((bN c).size+1) (bG (bN c)):=rfl;rw[if_pos rfl,i,du,de,EF a b.size (c.length+1) c Q0 Q0];simp
  |false=>
   have i:lW a false (bN c)=[]:=rfl;rw[if_neg Q1,i];simp
 rw[length_append,length_singleton];cases d with
 |true=>
  have:=o rfl;show _+((bN c).size+1)<=_;rw[du];omega
 |false=>
  show _+0<=_;omega
theorem OM{a:ByteArray}{f b:List UInt8}{c:Bool}(d:c=true->f.length+b.length<a.size):oB (.string (bN b)) (.bool c)<oB (.string a) (.bool true):=by
 cases c with
 |true=>
  have:=d rfl;show(bN b).size+1<a.size+1;rw[du];omega
 |false=>
  show 0<a.size+1;omega
theorem Xy(h:p:=by rw[<-hng];exact hB6):p:=h
theorem Xz(h:p:=by rw[<-hng];exact HLG0.out):p:=h
theorem XA(h:p:=by intro u hu;simp at hu;rcases hu with rfl|rfl|rfl<;>rfl):p:=h
theorem PE(w:World)(bM f s)(bF:bR w bM f)(cO:s.size<=4096):Calls prog 37 #[bM,.string s] w λe bO=>∃bj,e=.returned bj/\se w.heap.size (nL f (bG s)) bj bO/\Below w w bO:=by
 have bt:=lp_ bF;obtain⟨bJ,bL,rfl,cN,_⟩:=bF;obtain⟨am,hW1⟩:=ex_ (w.alloc (.cells #[.int .i64 0,.slice none 0 0,.int .i64 0,.int .i64 0,.slice none 0 0] 58));have a7:Below w w am:=RT;have ag:fw am w (.int .i64 0) (.slice none 0 0) (.int .i64 0) (.int .i64 0) (.slice none 0 0):=Tc;have g:=lm am s ⟨#[32,58,45,32]⟩ QY QY Q0;rw[show bG (⟨#[32,58,45,32]⟩:ByteArray)=[32,58,45,32] from rfl] at g;have i:=je (p:=[32,58,45,32]) Q1 (bG s);rw[cD] at i
 have aT:Hid (nL f (bG s)=⟨(lR f (bG (bN (bY [32,58,45,32] (bG s)).1))).1,(lR f (bG (bN (bY [32,58,45,32] (bG s)).1))).2.1,(lR f (bG (bN (bY [32,58,45,32] (bG s)).1))).2.2,lW f (bY [32,58,45,32] (bG s)).2.2 (bN (bY [32,58,45,32] (bG s)).2.1)⟩):=by
  show _=_;unfold lW;rw[de,de,du];rfl
 generalize bY [32,58,45,32] (bG s)=A at*;obtain⟨A,bQ,a0⟩:=A;simp only at i g aT;have aA:Hid ((bN A).size<=4096):=by show _<=_;rw[du];omega
 have HL0:Hid (mv a0 (bN bQ)<=s.size):=by
  show _<=_;unfold mv;rw[du];split
  .rename_i a2;have:=i.2.2 a2;omega
  omega
 generalize bN A=F at*;generalize bN bQ=bm at*;clear i;go_enter func37,ntmps37;go_wp2_with fail;clear hW1;refine g.mono ?_;clear g;rintro e ax ⟨rfl,af⟩;obtain⟨y,bA⟩:=ex_ ax.heap.size
 have ao:w.heap.size<y:=by
  have cK:=ag.d;have cL:=af.size;omega
 have bq:Hid (aw w y (.int .i64 0) (.slice none 0 0) (.int .i64 (-1)) (.int .i64 0) [] (ax.alloc (.cells #[.int .i64 0,.slice none 0 0,.int .i64 (-1),.int .i64 0,.slice none 0 0] 58)) [] (.slice none 0 0)):=by
  have aq:Below am am (ax.alloc (.cells #[.int .i64 0,.slice none 0 0,.int .i64 (-1),.int .i64 0,.slice none 0 0] 58)):=af.alloc af.size _;refine⟨by rw[<-bA];exact heap_alloc_new ax _,ag.e aq,OS _ _,⟨rfl,.inl ⟨rfl,rfl⟩⟩,(λA ct=>absurd ct (not_mem_nil)),a7.trans (aq.mono a7.size)⟩
 go_wp2_with fail;generalize ax.alloc (.cells #[.int .i64 0,.slice none 0 0,.int .i64 (-1),.int .i64 0,.slice none 0 0] 58)=b4 at*;clear a7 af ag bA;have g:=lm b4 F ⟨#[32,61,32]⟩ QY QY (by have:=aA.out;omega);rw[show bG (⟨#[32,61,32]⟩:ByteArray)=[32,61,32] from rfl] at g;have i:=je (p:=[32,61,32]) Q1 (bG F);rw[cD] at i;obtain⟨Z,bb⟩:=ex_ (lR f (bG F));rw[bb] at aT;have ai:Hid (Z=if(bY [32,61,32] (bG F)).2.2=true then(fi f (bY [32,61,32] (bG F)).1,nN (bY [32,61,32] (bG F)).2.1) else(fi f (bG F),-1,0)):=by show _=_;rw[<-bb,lR]
 clear bb;generalize bY [32,61,32] (bG F)=A at*;obtain⟨K,bl,bx⟩:=A;simp only at i g ai;refine g.mono ?_;clear g;rintro e bk ⟨rfl,aq⟩;have aB:=bK (bq.out.a aq);clear aq bq;cases bx
 case' false=>
  obtain⟨m,D⟩:∃m:Int,-1=m:=⟨_,rfl⟩;obtain⟨k,I⟩:∃k:Int,0=k:=⟨_,rfl⟩;obtain⟨C,a5⟩:∃C,C=F:=⟨_,rfl⟩
  have az:Hid (Z=(fi f (bG C),m,k)):=by
   show _=_;rw[ai.out,if_neg Q1,<-D,<-I,a5]
  have j:Hid (aw w y (.int .i64 0) (.slice none 0 0) m k [] bk [] (.slice none 0 0)):=by rw[<-D,<-I];exact aB.out
  have aV:Hid (C.size<=4096):=by rw[a5];exact aA.out
  clear aB ai i;go_wp2_with fail;generalize bk=aX at*;subst a5;clear D I
 case' true=>
  have aE:Hid (Z=(fi f (bG (bN K)),nN (bG (bN bl)))):=by show _=_;rw[ai.out,if_pos rfl,de,de]
  have aV:Hid ((bN K).size<=4096):=by show _<=_;rw[du];have:=i.1;have:=aA.out;omega
  have aF:(bN bl).size<=100000:=by rw[du];have:=i.2.1;have:=aA.out;omega
  generalize bN K=C at*;generalize bN bl=r at*;clear ai i;have g:=lm bk r ⟨#[43]⟩ QY QY aF;rw[show bG (⟨#[43]⟩:ByteArray)=[43] from rfl] at g;have i:=je (p:=[43]) Q1 (bG r);rw[cD] at i;have al:Hid (nN (bG r)=if(bY [43] (bG r)).2.2=true/\(bY [43] (bG r)).1≠[] then(dE (bY [43] (bG r)).1.tail,dE (bY [43] (bG r)).2.1) else(-1,dE (bG r))):=by show _=_;rw[nN]
  generalize bY [43] (bG r)=A at*;obtain⟨E,aN,a1⟩:=A;simp only at i g al;go_wp2_with fail;refine g.mono ?_;clear g;rintro e aO ⟨rfl,bD⟩;have ab:=bK (aB.out.a bD);clear bD aB;by_cases aL:a1=true/\E≠[]
  case' pos=>
   obtain⟨af,bd⟩:=aL;subst af
   have G:Hid (nN (bG r)=(dE ((bG (bN E)).drop 1),dE (bG (bN aN)))):=by
    show _=_;rw[al.out,if_pos ⟨rfl,bd⟩,de,de,drop_one]
   have cp:0<(bN E).size:=by rw[du];exact List.length_pos_iff.2 bd
   have aM:(bN E).size<=100000:=by rw[du];have:=i.1;omega
   have bI:(bN aN).size<=100000:=by rw[du];have:=i.2.1;omega
   have cq:(0:Int)<((bN E).size:Int):=Q0;have cr:(1:Int)<=((bN E).size:Int):=Q0;generalize bN E=aG at*;generalize bN aN=aW at*;clear al i bd;have g:=oI aO (aG.extract 1 aG.size) (by rw[<-cD,mn,length_drop,cD];omega);rw[mn] at g;obtain⟨m,D⟩:∃m:Int,dE ((bG aG).drop 1)=m:=⟨_,rfl⟩;rw[D] at g G;clear D;obtain⟨Q,R,S,T,U,v⟩:=ab.out.box.a;have cm:=v 2;obtain⟨bw,bB⟩:=ex_ (aO.setCell ⟨y,2,none⟩ m);have q:=bK (ab.out.e ao m);rw[bB] at q;clear v;go_wp2_with fail;refine g.mono ?_;clear g;rintro e J ⟨rfl,cs⟩;obtain rfl:=cs.symm;go_wp2_with fail;clear bB Q R S T U cm ab cp cq cr aM;have g:=oI bw aW bI;obtain⟨k,I⟩:∃k:Int,dE (bG aW)=k:=⟨_,rfl⟩;rw[I] at g G;clear I;obtain⟨Q,R,S,T,U,v⟩:=q.out.box.a;have a9:=v 3;obtain⟨aX,ap⟩:=ex_ (bw.setCell ⟨y,3,none⟩ k);have j:=bK (q.out.b ao k);rw[ap] at j;clear v;refine g.mono ?_;clear g;rintro e cA ⟨rfl,be⟩;obtain rfl:=be.symm;go_wp2_with fail;clear ap Q R S T U a9 q bI
   have az:Hid (Z=(fi f (bG C),m,k)):=by
    show _=_;rw[aE.out,G.out]
   clear aE G aF
  case' neg=>
   have G:Hid (nN (bG r)=(-1,dE (bG r))):=by
    show _=_;rw[al.out,if_neg aL]
   have aM:a1=true->¬(0:Int)<((bN E).size:Int):=λa2=>by
    rw[du];have:E=[]:=Classical.not_not.1 λce=>aL ⟨a2,ce⟩;rw[this];simp
   generalize bN E=aG at*;generalize bN aN=aW at*;clear al i aL;have g:=oI aO r aF;obtain⟨k,I⟩:∃k:Int,dE (bG r)=k:=⟨_,rfl⟩;rw[I] at g G;clear I;obtain⟨Q,R,S,T,U,v⟩:=ab.out.box.a;have a9:=v 3;obtain⟨aX,ap⟩:=ex_ (aO.setCell ⟨y,3,none⟩ k);obtain⟨m,D⟩:∃m:Int,-1=m:=⟨_,rfl⟩;have j:=bK (ab.out.b ao k);rw[ap,D] at j;rw[D] at G;clear v D
   have az:Hid (Z=(fi f (bG C),m,k)):=by
    show _=_;rw[aE.out,G.out]
   clear aE G aF;cases a1
   case' true=>have hu:=aM rfl
   all_goals
    clear aM;go_wp2_with fail;refine g.mono ?_;clear g;rintro e cA ⟨rfl,be⟩;obtain rfl:=be.symm;go_wp2_with fail;clear ap Q R S T U a9 ab
 all_goals
  have bv:=bK j.out.below.size;have g:=xW aX (.slice bJ f bL) f C (bt _ j.out.below) aV.out;obtain⟨H,ba⟩:=ex_ ((fi f (bG C)).args);obtain⟨V,bc⟩:∃V:Int,(fi f (bG C)).pred=V:=⟨_,rfl⟩;rw[ba,bc] at g
  have bU:Hid (Z=(⟨V,H⟩,m,k)):=by
   show _=_;rw[az.out,<-ba,<-bc]
  clear ba bc az aV;refine g.mono ?_;clear g;rintro e J ⟨K,rfl,aa,ar⟩;have q:=bK (j.out.a ar);have bs:=bK (aa.b bv.out);obtain⟨aY,aZ,rfl⟩:=gk aa.2;clear aa bv ar j;obtain⟨Q,R,S,T,U,v⟩:=q.out.box.a;have ck:=v 0;have cl:=v 1;clear v;obtain⟨cB,bC⟩:=ex_ ((J.setCell y V).setCell ⟨y,1,none⟩ (.slice aY H aZ));have j:=bK (q.out.d ao V (.slice aY H aZ) bs.out);rw[bC] at j;go_wp2_with fail;clear bC Q R S T U ck cl q bs;obtain⟨aP,bf⟩:=ex_ (Value.int .i64 V);obtain⟨K,ag⟩:=ex_ (Value.slice aY H aZ);obtain⟨aQ,bg⟩:=ex_ (Value.int .i64 m);obtain⟨aR,bh⟩:=ex_ (Value.int .i64 k);have b1:=bK bf;have b2:=bK bg;have b3:=bK bh;rw[bf,ag,bg,bh] at j;clear bf ag bg bh;go_loopw [6,7] (λaH bi wr=>∃(x:List LV) (u:Value) (o:ByteArray) (an:Bool),aH=.string o/\bi=.bool an/\Hid (aw w y aP K aQ aR H wr x u)/\Hid (lW f a0 bm=x.map LV.l++lW f an o/\x.length+mv an o<=s.size)) (λaH bi _=>oB aH bi)
  case atStart=>exact⟨[],_,bm,a0,rfl,rfl,j,rfl,Th⟩
  clear j;obtain⟨x,u,o,an,rfl,rfl,j,av⟩:=hrel;cases an with
  |true=>
   have i:=je (p:=[44,32]) Q1 (bG o);rw[cD] at i;have cP:x.length+(o.size+1)<=s.size:=av.out.2;have cM:x.length<=4096:=Q0;have g:=lm wr o ⟨#[44,32]⟩ QY QY Q0;rw[show bG (⟨#[44,32]⟩:ByteArray)=[44,32] from rfl] at g;have bo:Hid (jD f (o.size+1) (bG o)=jW f (bY [44,32] (bG o)).1::if(bY [44,32] (bG o)).2.2=true then jD f o.size (bY [44,32] (bG o)).2.1 else[]):=by show _=_;rw[jD]
   generalize bY [44,32] (bG o)=A at*;obtain⟨W,cE,bx⟩:=A;simp only at i g bo;have bW:=bK (OM i.2.2);go_wp2_with fail;refine g.mono ?_;clear g;rintro e J ⟨rfl,ar⟩;have q:=bK (j.out.a ar);clear ar;obtain⟨h,hTL⟩:=ex_ (bN W);have ak:Hid (bG h=W):=by rw[<-hTL];exact de _
   have aU:Hid (h.size<=4096):=Ti;rw[hTL];clear hTL;by_cases aI:h.size=0
   case' pos=>
    have aJ:¬(0:Int)<(h.size:Int):=Q0
    have HLG0:Hid (jW f W=⟨false,fi f (bG h)⟩):=by
     show _=_;unfold jW;rw[if_neg (by have bz:=cD h;rw[ak.out,aI] at bz;rw[List.eq_nil_of_length_eq_zero bz];simp),ak.out]
    have L:=hid_ aU.out;go_wp2_with fail;obtain⟨z,hB6,Y,X⟩:=yw q (.bool false) (.int .i64 0) (.slice none 0 0);generalize J.alloc (.cells #[.bool false,.int .i64 0,.slice none 0 0] 103)=ad at z hB6⊢;generalize J.heap.size=B at hB6 Y X⊢;have ac:=bK z;obtain⟨t,hng⟩:=ex_ false;have ay:Hid (nF ad B (.bool t) (.int .i64 0) (.slice none 0 0)):=Xy;have aj:Hid (jW f W=⟨t,fi f (bG h)⟩):=Xz;have aD:=hid_ L.out;clear hng z hB6 HLG0 L q;obtain⟨M,a4⟩:∃M,M=h:=⟨_,rfl⟩;clear aI aJ;subst a4
   case' neg=>
    have aJ:(0:Int)<(h.size:Int):=Q0;have cf:0<h.size:=Q0;have au:=D5 cf;rw[ak.out] at au;by_cases ae:h[0]=33
    case' neg=>
     have a3:((h[0].toNat:Int)==33)=false:=by
      rw[beq_eq_false_iff_ne];intro e;exact ae (UInt8.toNat_inj.1 (by have:(33:UInt8).toNat=33:=rfl;omega))
     have HLG0:Hid (jW f W=⟨false,fi f (bG h)⟩):=by
      show _=_;unfold jW;rw[if_neg (by rw[au];simp[ae]),ak.out]
     have L:=hid_ aU.out;go_wp2_with fail;obtain⟨z,hB6,Y,X⟩:=yw q (.bool false) (.int .i64 0) (.slice none 0 0);generalize J.alloc (.cells #[.bool false,.int .i64 0,.slice none 0 0] 103)=ad at z hB6⊢;generalize J.heap.size=B at hB6 Y X⊢;have ac:=bK z;obtain⟨t,hng⟩:=ex_ false;have ay:Hid (nF ad B (.bool t) (.int .i64 0) (.slice none 0 0)):=Xy;have aj:Hid (jW f W=⟨t,fi f (bG h)⟩):=Xz;have aD:=hid_ L.out;clear hng z hB6 HLG0 L q;obtain⟨M,a4⟩:∃M,M=h:=⟨_,rfl⟩;clear aI aJ ae a3 au;subst a4
    case' pos=>
     have a3:(h[0].toNat:Int)=33:=by rw[ae];rfl
     have cg:(1:Int)<=(h.size:Int):=Q0
     have HLG0:Hid (jW f W=⟨true,fi f (bG (h.extract 1 h.size))⟩):=by
      show _=_;unfold jW;rw[if_pos (by rw[au,ae]),mn,ak.out,drop_one]
     have L:Hid ((h.extract 1 h.size).size<=4096):=by
      show _<=_;rw[<-cD,mn,length_drop,cD];have:=aU.out;omega
     clear ae au;go_wp2_with fail;obtain⟨z,hB6,Y,X⟩:=yw q (.bool true) (.int .i64 0) (.slice none 0 0);generalize J.alloc (.cells #[.bool true,.int .i64 0,.slice none 0 0] 103)=ad at z hB6⊢;generalize J.heap.size=B at hB6 Y X⊢;have ac:=bK z;obtain⟨t,hng⟩:=ex_ true;have ay:Hid (nF ad B (.bool t) (.int .i64 0) (.slice none 0 0)):=Xy;have aj:Hid (jW f W=⟨t,fi f (bG (h.extract 1 h.size))⟩):=Xz;have aD:=hid_ L.out;clear hng z hB6 HLG0 L q;generalize h.extract 1 h.size=M at aj aD⊢;clear a3 cg aI aJ
   all_goals
    have g:=xW ad (.slice bJ f bL) f M (bt _ ac.out.below) aD.out;generalize fi f (bG M)=n at*;refine g.mono ?_;clear g;rintro e bP ⟨b5,rfl,aa,a8⟩;have br:=bK (ac.out.a a8);have ah:=bK (ay.out.b a8);have bE:=bK (aa.b ac.out.below.size);clear a8 ac ay;obtain⟨O,P,rfl⟩:=gk aa.2;clear aa;obtain⟨cG,cH,cI,cQ,cR,cS⟩:=ah.out.a;obtain⟨N,a6⟩:=ex_ ((bP.setCell ⟨B,1,none⟩ n.pred).setCell ⟨B,2,none⟩ (.slice O n.args P));have aK:=heap_setCell_same bP B 1 _ _ n.pred ah.out
    have bp:Hid (nF N B (.bool t) n.pred (.slice O n.args P)):=by
     rw[<-a6];exact heap_setCell_same _ B 2 _ _ _ aK
    have aC:Hid (aw w y aP K aQ aR H N x u):=by
     rw[<-a6];exact(br.out.c ah X Y).c aK X Y
    have bn:Hid (dY w N (.slice O n.args P) n.args):=by
     rw[<-a6];exact bE.out.a ((fh.a ah QY).b (fh.a aK QY))
    clear aK bE;obtain⟨cT,cU,cV,_,_,_⟩:=bp.out.a;obtain⟨_,_,_,_,cY,cZ⟩:=aC.out.box.a;obtain⟨cx,cn,cu,cv,cw⟩:=info_parts xP;have bZ:=bK (Py (av:=.slice O n.args P) av bo i.2.2 aj.out);have bu:Hid (aw w y aP K aQ aR H (N.alloc (.cells #[.bool t,n.pred,.slice O n.args P] 103)) x u):=aC.out.a (bH _ _);have bS:Hid (dY w (N.alloc (.cells #[.bool t,n.pred,.slice O n.args P] 103)) (.slice O n.args P) n.args):=bn.out.a (fh.c (bH _ _));have b0:Hid (w.heap.size<=N.heap.size+1):=by show _<=_;have:=aC.out.below.size;omega
    clear br ah bp aC bn i aj;go_wp2_with(at_builtin;refine wpList_append_lies _ SS _ _ 56 SS w 103 cx (.agg #[.bool false,.int .i64 0,.slice none 0 0]) 3 40 underlying56 cn cu cv cw SS Q0 u x (d9 x) SS bu.out.own ⟨N,0,none⟩ 1 1 [.bool t,.int .i64 n.pred,.slice O n.args P] SS SS mr XA Q0 Tk Q0 (by rw[size_alloc];exact b0.out) (N.heap.size+1) (size_alloc _ _) ?_;intro cJ cF cC hown9 hgrow9 ci co;obtain⟨cW,cX,bX⟩:=OE (ng:=t) (a:=n) ao bu bS Tn To;clear ci co hown9 hgrow9);go_roundw
    case rel=>exact⟨_,_,_,_,rfl,rfl,bX,bZ⟩
    exact bW.out
  |false=>
   have bV:Hid (x.length<=4096):=by show _<=_;have:=av.out.2;omega
   have bT:Hid (nL f (bG s)=⟨⟨V,H⟩,m,k,x.map LV.l⟩):=by
    show _=_;have e:lW f false o=[]:=rfl;rw[aT.out,bU.out,av.out.1,e,append_nil]
   have aS:=bK (Pz j bV aP K aQ aR u);obtain⟨Q,R,S,T,U,v⟩:=j.out.box.a;obtain⟨b6,b7,b8,b9,ca,Z⟩:=j.out.out.a;obtain⟨cy,cz,rfl⟩:=gk j.out.own;obtain⟨ch,cj,rfl⟩:=gk j.out.head.2;have cb:=b1.out;have cc:=b2.out;have cd:=b3.out;subst cb cc cd;clear av;go_wp2_with fail;exact bodyPost_ret (v:=.agg #[V,.slice ch H cj,m,k,.slice cy x cz]) (by simp[results,results37,go_sem,b6,b7,b8,b9,ca]) rfl ⟨_,rfl,by rw[bT.out];exact⟨_,_,rfl,aS.out.1,aS.out.2.1⟩,aS.out.2.2⟩
theorem Fj(b:World)(a s p)(d:cu b a s):Calls prog 68 #[.pointer (some ⟨a,0,none⟩),.string ⟨p.toArray⟩] b λe c=>e=.returned (.bool (bT p s).isSome)/\Hid (cu c a ((bT p s).getD s)/\Ate a b c):=by
 have:=vz b a s (bN p) d;rw[de] at this;exact this
theorem yE{s a n}(h:ek s=some (n,a)):a.length<=s.length:=by
 exact aaG
structure aJ (w:World) (B N:Nat) (x0 x1 x2 x3:Value) (hd:List Tm) (wr:World) (s':List UInt8):Prop where
 box:fw wr N x0 x1 x2 x3 (.slice none 0 0)
 out:fw wr w.heap.size (.int .i64 0) (.slice none 0 0) (.int .i64 0) (.int .i64 0) (.slice none 0 0)
 head:dY w wr x1 hd
 rest:cu wr B s'
 ate:Ate B w wr
theorem aJ.a{g:World}{b h l m n o j}{wr i:World}{s k}(d:aJ g b h l m n o j wr s)(f:Ate b wr i)(p:b<g.heap.size)(r:g.heap.size<=h)(q:cu i b k):aJ g b h l m n o j i k:=
 ⟨d.box.c f Q0,d.out.c f Q0,d.head.a (fh.e f p),q,d.ate.a f⟩
theorem aJ.d{h:World}{i g l m p n k}{wr:World}{s}(c:aJ h i g l m p n k wr s)(o:i<h.heap.size)(q:h.heap.size<g)(j):aJ h i g l m j n k (wr.setCell ⟨g,2,none⟩ j) s:=
 ⟨c.box.f j,c.out.b Q0,c.head.a (fh.a c.box QY),fP c.rest Q0,gE c.ate Q0 o⟩
theorem aJ.b{f:World}{h d k l m o j}{wr:World}{s}(c:aJ f h d k l m o j wr s)(n:h<f.heap.size)(p:f.heap.size<d)(i):aJ f h d k l m i j (wr.setCell ⟨d,3,none⟩ i) s:=
 ⟨c.box.g i,c.out.b Q0,c.head.a (fh.a c.box QY),fP c.rest Q0,gE c.ate Q0 n⟩
theorem aJ.c{h:World}{b d g i j k l f}{wr:World}{s}(a:aJ h b d i j k l f wr s):aY h b d g s i j k l f wr 0 [] (.slice none 0 0) s:=
 ⟨rfl,a.box,a.out,a.head,⟨rfl,.inl ⟨rfl,rfl⟩⟩,(λn m=>absurd m (not_mem_nil)),a.rest,a.ate,Q1,by cases f7 g s 0 s<;>rfl⟩
theorem MX{b:World}{m v B u C D q}{wr:World}{p o t s}(c:aZ b m v B u C D q wr p o t s)(x:o.length=p)(w:p<=4096)(k:m<b.heap.size)(d g h i j):dY b (((((wr.setCell b d).setCell ⟨b,1,none⟩ g).setCell ⟨b,2,none⟩ h).setCell ⟨b,3,none⟩ i).setCell ⟨b,4,none⟩ j) u q/\ iN b (((((wr.setCell b d).setCell ⟨b,1,none⟩ g).setCell ⟨b,2,none⟩ h).setCell ⟨b,3,none⟩ i).setCell ⟨b,4,none⟩ j) t (o.map LV.l)/\ cu (((((wr.setCell b d).setCell ⟨b,1,none⟩ g).setCell ⟨b,2,none⟩ h).setCell ⟨b,3,none⟩ i).setCell ⟨b,4,none⟩ j) m s/\ Ate m b (((((wr.setCell b d).setCell ⟨b,1,none⟩ g).setCell ⟨b,2,none⟩ h).setCell ⟨b,3,none⟩ i).setCell ⟨b,4,none⟩ j):=by
 subst x;have r:=fh.f (n:=b.heap.size) (e:=100) c.out QY d g h i j;have z:=fh.f (n:=b.heap.size) (e:=103) c.out QY d g h i j;refine⟨c.head.a r,⟨o,rfl,w,pm c.own z,λA y=>(c.lits A y).a r⟩,?_,?_⟩
 .exact fP (fP (fP (fP (fP c.rest Q0) Q0) Q0) Q0) Q0
 exact gE (gE (gE (gE (gE c.ate (le_refl _) k) (le_refl _) k) (le_refl _) k) (le_refl _) k) (le_refl _) k
theorem XB(h:p:=by have:=HI.out.len;have:=HSV.out;omega):p:=h
theorem XC(h:p:=by intro u hu;simp at hu;rcases hu with rfl|rfl|rfl<;>rfl):p:=h
theorem adZ(h:p:=by
 simp only[Act.put]
 refine rd_ 10 rfl λK hK=>?_
 go_simp
 refine hK.out _ _ trivial (λhHeld=>?_)
 clear hK K
 try simp only[sq_]
 refine wpAnyH_done QX ?_ _
 refine NoPanic.normal ?_
 clear n1 n2 q5 q6 qV
 go_wp2_with fail
 go_roundw
 case rel=>exact⟨j+1,_,_,_,_,rfl,rfl,HN9.out.2⟩
 have h1:=HN9.out;rw[ix h1.2.rest,ix HI.out.rest];exact h1.1):p:=h
theorem Zh(h:p:=by
 rw[he] at h5
 obtain⟨rfl,ha⟩:=h5.b
 have HNO:Hid (fu ps s=none):=by
  show _=_
  have hv:gu (bJ ps a.pred) s1=none:=by
   unfold gu
   rw[if_neg hk]
   rw[K2.out]
   simp only[Option.bind_some]
   rw[K3.out]
   simp only
   rw[he]
   rfl
  unfold fu
  rw[K0.out]
  simp only[Option.bind_some]
  rw[hv]
  rfl
 clear he
 go_wp2_with fail
 exact⟨rfl,ft HNO (HI.out.ate.a ha.out)⟩):p:=h
theorem ZK(h:p:=by
 unfold fu
 rw[K0.out]
 simp only[Option.bind_some]
 rw[hv]
 rfl):p:=h
theorem Z6(h:p:=by
 show _=_
 unfold fu
 rw[K0.out]
 simp only[Option.bind_some]
 rw[KV.out]
 simp only[Option.bind_some]
 rw[HEND.out]
 simp only[Option.bind_some]
 rw[he]
 rfl):p:=h
theorem aac(h:p:=by
 have:=uV w5.drew B _ (oH HR5.out) HL5 (.slice pa ps pc) ps (HP _ (HI.out.ate.a (HA5.out.a (Ate.b B w5))))
 rw[K3.out] at this
 exact this):p:=h
theorem aaK(h:p:=by
 unfold gu
 rw[if_neg hk]
 rw[K2.out]
 simp only[Option.bind_some]
 rw[K3.out]
 simp only
 rw[he]
 rfl):p:=h
theorem aec(h:p:=by
 go_simp
 refine hK.out _ _ trivial (λhHeld=>?_)
 clear hK K
 try simp only[sq_]
 refine rd_ 8 rfl λK hK=>?_
 refine step_append_lies _ Tv _ _ 56 Tv w 103 i0 (.agg #[.bool false,.int .i64 0,.slice none 0 0]) 3 40 underlying56 hi0 hz0 hz1 hz2 Tv Q0 u j (d9 ls) Tv HV.out.own ⟨w6,0,none⟩ 1 1 [.bool ng,.int .i64 a2.pred,.slice a2a a2.args a2c] Tv Tv mr XC Q0 Tt Q0 Tu (w6.heap.size+1) (size_alloc _ _) ?_
 intro g9 cap9 W9 hown9 hgrow9 hat9 hlt9
 obtain⟨n1,n2,HN9⟩:=yx HI.out.many HI.out.len HI.out.body K2 HNG K3 hB hN1 HV HOA Tw Tx
 clear hat9 hlt9 hown9 hgrow9
 refine hK.out _ _ trivial (λhHeld=>?_)
 clear hK K
 try simp only[Act.put,setIfInBounds_toArray]
 refine tk_ 9 ?_ rfl ?_ ?_
 rotate_left
 .exact Yt
 exact adZ):p:=h
theorem E5(w:World)(B s)(h:cu w B s)(an:s.length<=4096)(a4 ps)(a1:bR w a4 ps):Calls prog 21 #[a4,.pointer (some ⟨B,0,none⟩)] w (gD B w (fu ps s) λbz k T=>se w.heap.size bz k T):=by
 have hB:=iy h;have HP:=hid_ λx (bw:Ate B w x)=>EY h a1 bw;have bb:=hid_ an;obtain⟨pa,pc,rfl,bL,_⟩:=a1;obtain⟨Y,hW1⟩:=ex_ (w.alloc (.cells #[.int .i64 0,.slice none 0 0,.int .i64 0,.int .i64 0,.slice none 0 0] 58));have HA1:Hid (Ate B w Y):=Ta;have aG:Hid (cu Y B s):=Tb;have ag:Hid (fw Y w (.int .i64 0) (.slice none 0 0) (.int .i64 0) (.int .i64 0) (.slice none 0 0)):=Tc;have f:=uV Y B s aG an (.slice pa ps pc) ps (HP _ HA1.out);clear an h;go_enter func21,ntmps21;go_wp2_with fail;clear hW1;refine f.mono ?_;clear f;intro e M h1;cases he:eH ps s with
 |none=>
  rw[he] at h1;obtain⟨rfl,ha⟩:=h1.b;have HNO:Hid (fu ps s=none):=by show _=_;unfold fu;rw[he];rfl
  exact abq
 |some x=>
  obtain⟨a,s1⟩:=x;rw[he] at h1;obtain⟨k,rfl,bv,z⟩:=h1.a;clear h1;have K0:=hid_ he;obtain⟨a3,aX,a0⟩:=(sl he).2.there;clear he;obtain⟨m,rfl,q⟩:=bv;have aD:Hid (s1.length<=4096):=by show _<=_;have:=sh K0.out;have:=bb.out;omega
  obtain⟨o,aR⟩:=ex_ M.heap.size;obtain⟨y,ak⟩:=ex_ a.args;have a8:=bK ak;rw[ak] at q;obtain⟨F,bx⟩:=ex_ m;subst bx
  have hN1:w.heap.size<o:=by
   have h1:=ag.out.d;have aj:=z.out.2.d;omega
  obtain⟨E,aq⟩:=ex_ (Value.int .i64 a.pred);have bd:=bK aq
  have HI:Hid (aJ w B o E m (.int .i64 (-1)) (.int .i64 0) y (M.alloc (.cells #[a.pred,m,.int .i64 (-1),.int .i64 0,.slice none 0 0] 58)) s1):=by
   have Z:Ate B M (M.alloc (.cells #[a.pred,m,.int .i64 (-1),.int .i64 0,.slice none 0 0] 58)):=Ate.c (bH _ _) (le_of_lt (iy z.out.1));refine⟨?_,ag.out.c (z.out.2.a Z) Q0,(q.b HA1.out.d).a (fh.c (bH _ _)),ji z.out.1 (bH _ _),HA1.out.a (z.out.2.a Z)⟩;rw[<-aR,<-aq];exact heap_alloc_new M _
  obtain⟨aN,aO,rfl⟩:=gk q.2;have ae:=yq (M.alloc (.cells #[a.pred,.slice aN y aO,.int .i64 (-1),.int .i64 0,.slice none 0 0] 58)) (.slice pa ps pc) ps a3 (HP _ HI.out.ate) aX;rw[<-a0] at ae;clear q z HA1 aG ag aX a0 ak aq a3;go_wp2_with fail;refine ae.mono ?_;clear ae;rintro e ai ⟨rfl,aW⟩;rw[<-aW] at HI;clear aW aR;obtain⟨F,z⟩:=ex_ (Value.slice aN y aO);rw[z] at HI;clear z;by_cases hk:bJ ps a.pred=0
  case' pos=>
   have R:(!decide (bJ ps a.pred=0))=false:=RA;rw[R];clear R;have U:Hid (∃v t i,gu (bJ ps a.pred) s1=some ((v,t),i)/\aJ w B o E F v t y ai i/\i.length<=4096):=⟨-1,0,s1,by unfold gu;rw[if_pos hk],HI.out,aD.out⟩;go_wp2_with fail;clear hk HI;generalize ai=aM at*
  case' neg=>
   have R:(!decide (bJ ps a.pred=0))=true:=RA;rw[R];clear R;have f:=oC ai B s1 [32,61,32] HI.out.rest;go_wp2_with fail;refine f.mono ?_;clear f;intro e bD h5;cases he:bT [32,61,32] s1
   case none=>
    rw[he,map_none] at h5;obtain⟨rfl,ha⟩:=h5.b
    have HNO:Hid (fu ps s=none):=by
     show _=_
     have hv:gu (bJ ps a.pred) s1=none:=by
      unfold gu;rw[if_neg hk];rw[he];rfl
     exact ZK
    clear he;exact Zq
   case' some ab=>
    rw[he,map_some] at h5;obtain⟨k,rfl,rfl,g⟩:=h5.a;clear h5;have K2:=hid_ he;clear he;replace HI:=bK (HI.out.a g.out.2 hB Q0 g.out.1);have af:Hid (ab.length<=4096):=by show _<=_;have:=fU K2.out;have:=aD.out;omega
    clear g;have f:=Fj bD B ab [35] HI.out.rest;go_wp2_with fail;refine f.mono ?_;clear f;rintro e a7 ⟨rfl,n⟩;cases he:bT [35] ab
    case' some D=>
     rw[he] at n;simp only[isSome_some,getD_some] at n⊢;have K3:=hid_ he;clear he;replace HI:=bK (HI.out.a n.out.2 hB Q0 n.out.1);have N:Hid (D.length<=4096):=by show _<=_;have:=fU K3.out;have:=af.out;omega
     clear n;have f:=qE a7 B D HI.out.rest (by have:=N.out;omega);go_wp2_with fail;refine f.mono ?_;clear f;intro e w5 h5;cases he:ek D
     case none=>
      exact Zh
     case' some x=>
      obtain⟨av,ay⟩:=x;rw[he] at h5;obtain⟨k,rfl,rfl,g⟩:=h5.a;clear h5;have W:=hid_ he;clear he;replace HI:=bK (HI.out.a g.out.2 hB Q0 g.out.1);have HL5:Hid (ay.length<=4096):=by show _<=_;have:=yE W.out;have:=N.out;omega
      clear g;obtain⟨G,H,I,J,L,p⟩:=HI.out.box.a;have P:=p 2;have Q:=p 3;clear p;obtain⟨bh,aU⟩:=ex_ (w5.setCell ⟨o,2,none⟩ av);replace HI:=bK (HI.out.d hB hN1 av);rw[aU] at HI;have f:=oC bh B ay [43] HI.out.rest;go_wp2_with fail;clear aU G H I J L P Q;refine f.mono ?_;clear f;intro e w6 h5;cases he:bT [43] ay
      case none=>
       rw[he,map_none] at h5;obtain⟨rfl,ha⟩:=h5.b
       have HNO:Hid (fu ps s=none):=by
        show _=_
        have hv:gu (bJ ps a.pred) s1=none:=by
         unfold gu;rw[if_neg hk];rw[K2.out];simp only[Option.bind_some];rw[K3.out];simp only;rw[W.out];simp only[Option.bind_some];rw[he];rfl
        exact ZK
       clear he;exact Zq
      case' some az=>
       rw[he,map_some] at h5;obtain⟨k,rfl,rfl,g⟩:=h5.a;clear h5;have ah:=hid_ he;clear he;replace HI:=bK (HI.out.a g.out.2 hB Q0 g.out.1);have aE:Hid (az.length<=4096):=by show _<=_;have:=fU ah.out;have:=HL5.out;omega
       clear g;have f:=qE w6 B az HI.out.rest (by have:=aE.out;omega);go_wp2_with fail;refine f.mono ?_;clear f;intro e bE h5;cases he:ek az
       case none=>
        rw[he] at h5;obtain⟨rfl,ha⟩:=h5.b
        have HNO:Hid (fu ps s=none):=by
         show _=_
         have hv:gu (bJ ps a.pred) s1=none:=by
          unfold gu;rw[if_neg hk];rw[K2.out];simp only[Option.bind_some];rw[K3.out];simp only;rw[W.out];simp only[Option.bind_some];rw[ah.out];simp only[Option.bind_some];rw[he];rfl
         exact ZK
        clear he;exact Zq
       case' some x=>
        obtain⟨aw,a6⟩:=x;rw[he] at h5;obtain⟨k,rfl,rfl,g⟩:=h5.a;clear h5;have aI:=hid_ he;clear he;replace HI:=bK (HI.out.a g.out.2 hB Q0 g.out.1);have ba:Hid (a6.length<=4096):=by show _<=_;have:=yE aI.out;have:=aE.out;omega
        clear g;obtain⟨G,H,I,J,L,p⟩:=HI.out.box.a;have P:=p 2;have Q:=p 3;clear p;obtain⟨aL,aV⟩:=ex_ (bE.setCell ⟨o,3,none⟩ aw);replace HI:=bK (HI.out.b hB hN1 aw);rw[aV] at HI
        have U:Hid (∃v t i,gu (bJ ps a.pred) s1=some ((v,t),i)/\aJ w B o E F v t y aL i/\i.length<=4096):=⟨av,aw,a6,by
         unfold gu;rw[if_neg hk];rw[K2.out];simp only[Option.bind_some];rw[K3.out];simp only;rw[W.out];simp only[Option.bind_some];rw[ah.out];simp only[Option.bind_some];rw[aI.out]
         rfl,HI.out,ba.out⟩
        go_wp2_with fail;clear hk HI aV G H I J L P Q;generalize aL=aM at*
    case' none=>
     rw[he] at n;simp only[isSome_none,getD_none] at n⊢;have K3:=hid_ he;clear he;replace HI:=bK (HI.out.a n.out.2 hB Q0 n.out.1);obtain⟨D,ao⟩:=ex_ ab;have N:Hid (D.length<=4096):=by rw[<-ao];exact af.out
     rw[ao] at HI K2 K3;clear ao af n;have f:=qE a7 B D HI.out.rest (by have:=N.out;omega);go_wp2_with fail;refine f.mono ?_;clear f;intro e ac h5;cases he:ek D
     case none=>
      exact Zh
     case' some x=>
      obtain⟨au,a5⟩:=x;rw[he] at h5;obtain⟨k,rfl,rfl,g⟩:=h5.a;clear h5;have aH:=hid_ he;clear he;replace HI:=bK (HI.out.a g.out.2 hB Q0 g.out.1);have a9:Hid (a5.length<=4096):=by show _<=_;have:=yE aH.out;have:=N.out;omega
      clear g;obtain⟨G,H,I,J,L,p⟩:=HI.out.box.a;have P:=p 2;have Q:=p 3;clear p;obtain⟨aK,aT⟩:=ex_ (ac.setCell ⟨o,3,none⟩ au);replace HI:=bK (HI.out.b hB hN1 au);rw[aT] at HI
      have U:Hid (∃v t i,gu (bJ ps a.pred) s1=some ((v,t),i)/\aJ w B o E F v t y aK i/\i.length<=4096):=⟨-1,au,a5,by
       unfold gu;rw[if_neg hk];rw[K2.out];simp only[Option.bind_some];rw[K3.out];simp only;rw[aH.out]
       rfl,HI.out,a9.out⟩
      go_wp2_with fail;clear hk HI aT G H I J L P Q;generalize aK=aM at*
  all_goals
   obtain⟨v,t,i,aS,aP,aQ⟩:=U.out;have KV:=hid_ aS;have ad:=bK aP;have HSV:=hid_ aQ;clear U aS aP aQ;obtain⟨aA,ar⟩:=ex_ (Value.int .i64 v);obtain⟨aB,n⟩:=ex_ (Value.int .i64 t);have be:=bK ar;have bf:=bK n;rw[ar,n] at ad;clear ar n;go_loopw [6] (λbj wr=>∃(j:Nat) (ls:List LV) (u:Value) (C:List UInt8) (X:ByteArray),bj=.string X/\Hid (bG X=gp j)/\Hid (aY w B o ps i E F aA aB y wr j ls u C)) (λ_ wr=>sP wr B)
   case atStart=>exact⟨0,[],_,i,_,rfl,rfl,ad.out.c⟩
   clear ad;obtain⟨j,ls,u,C,X,rfl,bc,HI⟩:=hrel;have f:=vz wr B C X HI.out.rest;rw[bc.out] at f;go_wp2_with fail;refine f.mono ?_;clear f;rintro e ac ⟨rfl,r⟩;cases he:bT (gp j) C with
   |none=>
    rw[he] at r;simp only[isSome_none,getD_none] at r⊢
    have HEND:Hid (f7 ps i 0 i=some (ls.map LV.l,C)):=by
     show _=_;rw[HI.out.body,MV he];simp
    clear he;have aF:=bK (HI.out.a r.out.2 hB Q0 r.out.1);have f:=oC ac B C [46,10] r.out.1;go_wp2_with fail;refine f.mono ?_;clear f;intro e w5 h5;cases he:bT [46,10] C with
    |none=>
     rw[he,map_none] at h5;obtain⟨rfl,ha⟩:=h5.b
     have HNO:Hid (fu ps s=none):=by
      exact Z6
     clear he;go_wp2_with fail;exact⟨rfl,ft HNO (aF.out.ate.a ha.out)⟩
    |some bA=>
     rw[he,map_some] at h5;obtain⟨k,rfl,rfl,g⟩:=h5.a;clear h5
     have bg:Hid (fu ps s=some (⟨a,v,t,ls.map LV.l⟩,bA)):=by
      exact Z6
     clear he;have O:=bK (HI.out.a (r.out.2.a g.out.2) hB Q0 g.out.1);have V:=bK (MX O HI.out.many XB hB E F aA aB u);obtain⟨G,H,I,J,L,p⟩:=O.out.box.a;obtain⟨bk,bl,bm,bn,bo,bF⟩:=O.out.out.a;obtain⟨bB,bC,rfl⟩:=gk O.out.own;obtain⟨ha,bs,rfl⟩:=gk O.out.head.2;have bp:=bd.out;have bq:=be.out;have br:=bf.out;subst bp bq br;clear r g aF;go_wp2_with fail;exact bodyPost_ret (v:=.agg #[a.pred,.slice ha y bs,v,t,.slice bB j bC]) (by simp[results,results21,go_sem,bk,bl,bm,bn,bo]) rfl (lU bg V.out.2.2.2 ⟨_,_,rfl,by have:=V.out.1;have e:=a8.out;subst e;exact this,V.out.2.1⟩ V.out.2.2.1)
   |some A=>
    rw[he] at r;simp only[isSome_some,getD_some] at r⊢;have K2:=hid_ he;clear he;have f:=Fj ac B A [33] r.out.1;go_wp2_with fail;refine f.mono ?_;clear f;rintro e w5 ⟨rfl,g⟩;obtain⟨ng,al⟩:=ex_ ((bT [33] A).isSome);have HNG:=bK al;rw[al];clear al;have HA5:=hid_ (r.out.2.a g.out.2);have HR5:=hid_ g.out.1
    have HL5:Hid (((bT [33] A).getD A).length<=4096):=by
     show _<=_;have:=uW A;have:=fU K2.out;have:=HI.out.len;have:=HSV.out;omega
    have q5:w5.drew.cell? ⟨o,4,none⟩=some u:=(HI.out.box.c HA5 Q0).a.2.2.2.2.1;clear r g;go_wp2_with fail;cases aa:eH ps ((bT [33] A).getD A) with
    |none=>
     have K3:=hid_ aa;clear aa
     have HT:Hid (Calls prog 66 #[.pointer (some ⟨B,0,none⟩),.slice pa ps pc] w5.drew (gD B w5.drew none λa k T=>xS w5.drew.heap.size a k T)):=by
      exact aac
     have HNO:Hid (fu ps s=none):=by
      show _=_;unfold fu;rw[K0.out];simp only[Option.bind_some];rw[KV.out];simp only[Option.bind_some];rw[HI.out.body,MU K2 K3.out];rfl
     refine wp_region_held_drew (S:=(λ_:World=>True)) QX trivial (λhHeld=>?_);refine tk_ 0 ?_ rfl ?_ ?_;rotate_left
     .exact Yt
     simp only[Act.put];refine tk_ 2 ?_ rfl ?_ ?_;rotate_left
     .exact Yt
     simp only[Act.put];refine tk_ 3 ?_ rfl ?_ ?_;rotate_left
     .exact Yt
     simp only[Act.put];refine tk_ 4 ?_ rfl ?_ ?_;rotate_left
     .exact Yt
     simp only[Act.put];refine wpAnyH_ready (rs:=[1,5]) QX Q1 ?_;refine AllReadyH.cons rfl (λK hK=>?_) ?_
     .go_simp;refine hK.out _ _ trivial (λhHeld=>?_);clear hK K;try simp only[sq_]
      refine rd_ 5 rfl λK hK=>?_;exact Zb
     exact acg
    |some x=>
     obtain⟨a2,ax⟩:=x;have K3:=hid_ aa;clear aa;obtain⟨i0,hi0,hz0,hz1,hz2⟩:=info_parts xP
     have aC:Hid (∀w6 m,cu w6 B ax->Ate B w5.drew w6->dY w5.drew.heap.size w6 m a2.args->w6.cell? ⟨o,4,none⟩=some u/\(w6.alloc (.cells #[.bool ng,a2.pred,m] 103)).cell? ⟨o,4,none⟩=some u/\Hid (aZ w B o E F aA aB y (w6.alloc (.cells #[.bool ng,a2.pred,m] 103)) j ls u ax)/\Hid (dY w (w6.alloc (.cells #[.bool ng,a2.pred,m] 103)) m a2.args)/\Hid (w.heap.size<=w6.heap.size+1/\(w6.alloc (.cells #[.bool ng,a2.pred,m] 103)).heap.size=w6.heap.size+1)):=λw6 m am ha bu=>by
      have h1:=HI.out.a (HA5.out.a ((Ate.b B w5).a ha)) hB Q0 am;have Z:Ate B w6 (w6.alloc (.cells #[.bool ng,a2.pred,m] 103)):=Ate.c (bH _ _) (le_of_lt (iy am));have aj:=HI.out.a (HA5.out.a ((Ate.b B w5).a (ha.a Z))) hB Q0 (ji am (bH w6 (.cells #[.bool ng,a2.pred,m] 103)));have bt:=(HI.out.ate.a (HA5.out.a (Ate.b B w5))).d;refine⟨h1.box.a.2.2.2.2.1,aj.box.a.2.2.2.2.1,aj,(bu.b bt).a (fh.c (bH _ _)),?_,size_alloc _ _⟩;have:=h1.ate.d;omega
     have bI:j<=4096:=XB
     have HT:Hid (Calls prog 66 #[.pointer (some ⟨B,0,none⟩),.slice pa ps pc] w5.drew (gD B w5.drew (some (a2,ax)) λa k T=>xS w5.drew.heap.size a k T)):=by
      exact aac
     refine wp_region_noPanic ?_;refine wp_region_held_drew (S:=(λ_:World=>True)) QX trivial (λhHeld=>?_);refine tk_ 0 ?_ rfl ?_ ?_;rotate_left
     .exact Yt
     simp only[Act.put];refine tk_ 2 ?_ rfl ?_ ?_;rotate_left
     .exact Yt
     simp only[Act.put];refine tk_ 3 ?_ rfl ?_ ?_;rotate_left
     .exact Yt
     simp only[Act.put];refine tk_ 4 ?_ rfl ?_ ?_;rotate_left
     .exact Yt
     simp only[Act.put];refine wpAnyH_ready (rs:=[1,5]) QX Q1 ?_;refine AllReadyH.cons rfl (λK hK=>?_) ?_
     .go_simp;refine hK.out _ _ trivial (λhHeld=>?_);clear hK K;try simp only[sq_]
      refine rd_ 5 rfl λK hK=>?_;go_simp;refine HT.out.mono ?_;intro e w6 h6;obtain⟨k,rfl,ap,hx6⟩:=h6.a;clear h6;obtain⟨bi,rfl,q⟩:=ap;obtain⟨a2a,a2c,rfl⟩:=gk q.2;obtain⟨q6,qV,HV,HOA,HSE⟩:=aC w6 (.slice a2a a2.args a2c) hx6.out.1 hx6.out.2 q;clear q;refine hK.out _ _ trivial (λhHeld=>?_);clear hK K;try simp only[sq_]
      refine tk_ 6 ?_ rfl ?_ ?_;rotate_left
      .exact Yt
      simp only[Act.put];refine rd_ 7 rfl λK hK=>?_;exact aec
     refine AllReadyH.cons rfl (λK hK=>?_) AllReadyH.nil;go_simp;refine HT.out.mono ?_;intro e w6 h6;obtain⟨k,rfl,ap,hx6⟩:=h6.a;clear h6;obtain⟨bi,rfl,q⟩:=ap;obtain⟨a2a,a2c,rfl⟩:=gk q.2;obtain⟨q6,qV,HV,HOA,HSE⟩:=aC w6 (.slice a2a a2.args a2c) hx6.out.1 hx6.out.2 q;clear q;refine hK.out _ _ trivial (λhHeld=>?_);clear hK K;try simp only[sq_]
     refine tk_ 6 ?_ rfl ?_ ?_;rotate_left
     .exact Yt
     simp only[Act.put];refine wpAnyH_ready (rs:=[1,7]) QX Q1 ?_;refine AllReadyH.cons rfl (λK hK=>?_) ?_
     .go_simp;refine hK.out _ _ trivial (λhHeld=>?_);clear hK K;try simp only[sq_]
      refine rd_ 7 rfl λK hK=>?_;exact aec
     refine AllReadyH.cons rfl (λK hK=>?_) AllReadyH.nil;go_simp;refine hK.out _ _ trivial (λhHeld=>?_);clear hK K;try simp only[sq_]
     refine rd_ 1 rfl λK hK=>?_;exact aec
structure au (B P:Nat) (w w':World):Prop where
 low:Below P w w'
 rest:∀b,P<b->b≠B->b<w.heap.size->w'.heap[b]? =w.heap[b]?
theorem au.f(b c)(a:World):au b c a a:=⟨Below.refl _ _,λ_ _ _ _=>rfl⟩
theorem au.b{a c}{j l m:World}(d:au a c j l)(k:au a c l m):au a c j m:=⟨d.low.trans k.low,λf g h i=>(k.rest f g h (Nat.lt_of_lt_of_le i d.low.size)).trans (d.rest f g h i)⟩
theorem au.a{b c}{f g:World}(d:Ate b f g)(k:c<b):au b c f g:=⟨d.below.mono Q0,λj _ h i=>d.e h i⟩
theorem au.d{c f}{a b:World}(g:au c f a b):a.heap.size<=b.heap.size:=g.low.size
theorem au.c{b a k}{f g:World}{m}(d:au b a f g):au b a f (g.setCell ⟨a,k,none⟩ m):=⟨d.low.setCell (p:=⟨a,k,none⟩) (le_refl _) _,λh i j l=>by rw[h_ Q0];exact d.rest h i j l⟩
theorem au.e{h c}{b i j:World}{m}(g:au h c b i)(k:i.grownBy j m)(l:∀a,m=some a->b.heap.size<=a)(q:c<b.heap.size):au h c b j:=by
 have r:=g.d;refine⟨g.low.grown k Q0 (λa e=>by have:=l a e;omega),λf n o p=>?_⟩;refine(k.block f Q0 (λe=>?_)).trans (g.rest f n o p);have:=l f e.symm;omega
def cR(w:World)(b:Nat)(x y:Value):Prop:=w.heap[b]? =some (.cells #[x,y] 30 (0,0))
theorem cR.g{b a}{d f:World}{h i}(c:cR d a h i)(j:Ate b d f)(k:a≠b):cR f a h i:=(j.e k (Array.getElem?_eq_some_iff.1 c).1).trans c
theorem cR.a{b}{c:World}{d f}(h:cR c b d f):c.cell? b=some d/\c.cell? ⟨b,1,none⟩=some f/\c.frozen? b=false/\c.frozen? ⟨b,1,none⟩=false:=by
 unfold cR at h;exact ad7
theorem cR.e{a}{b:World}{d f}(c:cR b a d f):a<b.heap.size:=(Array.getElem?_eq_some_iff.1 c).1
theorem cR.c{a}{d:World}{h f}(g:cR d a h f)(b):cR (d.setCell a b) a b f:=heap_setCell_same d a 0 _ _ b g
theorem cR.f{a}{c:World}{d h}(g:cR c a d h)(b):cR (c.setCell ⟨a,1,none⟩ b) a d b:=heap_setCell_same c a 1 _ _ b g
def jR(n:Nat)(w:World)(pv:Value)(ps:List Prd):Prop:=ps.length<=4096/\w.ownsRow n 51 3 pv ps (dP ps)
theorem jR.a{n}{f g:World}{d c}(b:jR n f d c)(k:fh 51 n f g):jR n g d c:=⟨b.1,pm b.2 k⟩
theorem jR.b{n}{f:World}{d c}(a:jR n f d c):bR f d c:=uN a.2 (by have:=a.1;omega)
def kN(n:Nat)(w:World)(rv:Value)(rs:List Rul):Prop:=∃rvs:List RV,rvs.map RV.r=rs/\rvs.length<=4096/\w.ownsRow n 58 5 rv rvs (ci rvs)/\∀x∈rvs,dY n w x.hv x.r.head.args/\iN n w x.bv x.r.body
theorem kN.b{n}{c d:World}{j i}(l:kN n c j i)(h:fh 100 n c d)(q:fh 103 n c d)(r:fh 58 n c d):kN n d j i:=by
 obtain⟨s,m,o,p,f⟩:=l;exact⟨s,m,o,pm p r,λk g=>⟨(f k g).1.a h,(f k g).2.a h q⟩⟩
theorem kN.a{n}{h:World}{g f}(j:kN n h g f):ck h g f:=by
 obtain⟨m,rfl,l,k,b⟩:=j;exact uO k Q0 (λi d=>⟨(b i d).1.c,(b i d).2.c⟩)
theorem yh:∀(l:List Prd) (a:Prd),dP (l++[a])=dP l++[.string a.name,.int .i64 a.arity,.int .i64 a.kind]
 |[],a=>rfl
 |x::l,a=>by simp only[cons_append,dP,yh l a]
theorem Zy(h:p:=by
 have:s=[]:=length_eq_zero_iff.1 Q0
 subst this
 rw[nil0,nil0]):p:=h
theorem O9:∀(n a:Nat) (s:List UInt8),s.length<=n->s.length<=a->fO n s=fO a s:=by
 have nil0:∀n,fO n []=some ([],[]):=by intro n;cases n<;>rfl
 intro n;induction n with
 |zero=>
  intro a s d f;exact Zy
 |succ n ih=>
  intro a s d f;cases a with
  |zero=>
   exact Zy
  |succ a=>
   rw[fO,fO];cases c:e8 s with
   |none=>rfl
   |some b=>
    have:=vp (u:=b.2) (q:=b.1) c;simp only[Option.bind_some];rw[ih a b.2 Q0 Q0]
theorem PP(b):∀(n a:Nat) (s:List UInt8),s.length<=n->s.length<=a->gV b n s=gV b a s:=by
 have nil0:∀n,gV b n []=some []:=by intro n;cases n<;>rfl
 intro n;induction n with
 |zero=>
  intro a s f g;exact Zy
 |succ n ih=>
  intro a s f g;cases a with
  |zero=>
   exact Zy
  |succ a=>
   rw[gV,gV];cases d:fu b s with
   |none=>rfl
   |some c=>
    have:=(yK (u:=c.2) (r:=c.1) d).1;simp only[Option.bind_some];rw[ih a c.2 Q0 Q0]
structure a7 (w:World) (B P:Nat) (s:List UInt8) (wr:World) (ps:List Prd) (u:Value) (sj:List UInt8):Prop where
 box:cR wr P u (.slice none 0 0)
 own:wr.ownsRow w.heap.size 51 3 u ps (dP ps)
 rest:cu wr B sj
 kept:au B P w wr
 len:sj.length+ps.length<=s.length
 eq:fO s s=(fO sj sj).bind λy=>some (ps++y.1,y.2)
structure bw (w:World) (B P:Nat) (wr:World) (ps:List Prd) (u:Value) (s':List UInt8):Prop where
 box:cR wr P u (.slice none 0 0)
 own:wr.ownsRow w.heap.size 51 3 u ps (dP ps)
 rest:cu wr B s'
 kept:au B P w wr
theorem a7.a{i:World}{c d s}{wr j:World}{k m q l}(f:a7 i c d s wr k m q)(h:Ate c wr j)(n:c<i.heap.size)(o:d<c)(p:cu j c l):bw i c d j k m l:=
 ⟨f.box.g h Q0,vl f.own h n,p,f.kept.b (au.a h o)⟩
theorem yI{m:World}{j h:Nat}{s:List UInt8}{b:List Prd}{l:Value}{g d:List UInt8}{k:Prd}{u i:World}{p o:Nat}(J:g.length+b.length<=s.length)(D:fO s s=(fO g g).bind λt=>some (b++t.1,t.2))(z:jV g=true)(v:e8 g=some (k,d))(H:j<m.heap.size)(I:h<j)(f:bw m j h u b l d)(q:u.grownBy i l.ownBlock)(C:i.ownsRow m.heap.size 51 3 (.slice (some ⟨p,0,none⟩) (b.length+1) o) (b.length+1) (dP b++[.string k.name,.int .i64 k.arity,.int .i64 k.kind])):i.cell? h=some l/\i.frozen? h=false/\Hid (d.length<g.length/\a7 m j h s (i.setCell h (.slice (some ⟨p,0,none⟩) (b.length+1) o)) (b++[k]) (.slice (some ⟨p,0,none⟩) (b.length+1) o) d):=by
 have n:cR i h l (.slice none 0 0):=jg q f.box (iv f.own f.box QY);have w:cu i j d:=jg q f.rest (iv f.own f.rest QY);have x:=f.kept.e q (oG f.own) Q0;obtain⟨y,F,B,G⟩:=n.a;have A:=vp v;refine⟨y,B,A,n.c _,?_,fP w Q0,x.c,?_,?_⟩
 .rw[yh,length_append];exact jE C n QY
 .rw[length_append,length_singleton];omega
 rw[D];obtain⟨r,E⟩:∃r,g.length=r+1:=⟨g.length-1,Q0⟩;rw[E,fO,z,if_pos rfl,v,Option.bind_some];simp only;rw[O9 r d d Q0 Q0];cases fO d d with
 |none=>rfl
 |some t=>simp
theorem O8{a}(b:jV a=false):fO a a=some ([],a):=by
 cases c:a.length with
 |zero=>rfl
 |succ d=>rw[fO,b];rfl
theorem O7{a}(b:jV a=true)(c:e8 a=none):fO a a=none:=by
 cases d:a.length with
 |zero=>
  have:a=[]:=length_eq_zero_iff.1 d;subst this;cases b
 |succ f=>rw[fO,b,if_pos rfl,c];rfl
theorem D9(l a):ci (l++[a])=ci l++[.int .i64 a.r.head.pred,a.hv,.int .i64 a.r.src,.int .i64 a.r.n,a.bv]:=by
 rw[rX];rfl
structure a8 (w:World) (B P:Nat) (ps:List Prd) (pv:Value) (s:List UInt8) (wr:World) (rvs:List RV) (u:Value) (sj:List UInt8):Prop where
 box:cR wr P pv u
 preds:jR w wr pv ps
 own:wr.ownsRow w.heap.size 58 5 u rvs (ci rvs)
 rules:∀x∈rvs,dY w wr x.hv x.r.head.args/\iN w wr x.bv x.r.body
 rest:cu wr B sj
 kept:au B P w wr
 len:sj.length+rvs.length<=s.length
 eq:gV ps s s=(gV ps sj sj).bind λy=>some (rvs.map RV.r++y)
structure bt (w:World) (B P:Nat) (ps:List Prd) (pv:Value) (wr:World) (rvs:List RV) (u:Value) (s':List UInt8):Prop where
 box:cR wr P pv u
 preds:jR w wr pv ps
 own:wr.ownsRow w.heap.size 58 5 u rvs (ci rvs)
 rules:∀x∈rvs,dY w wr x.hv x.r.head.args/\iN w wr x.bv x.r.body
 rest:cu wr B s'
 kept:au B P w wr
theorem a8.a{j:World}{d i m n s}{wr k:World}{o q v p}(f:a8 j d i m n s wr o q v)(c:Ate d wr k)(h:d<j.heap.size)(t:i<d)(u:cu k d p):bt j d i m n k o q p:=
 ⟨f.box.g c Q0,f.preds.a (fh.e c h),vl f.own c h,λr l=>⟨(f.rules r l).1.a (fh.e c h),(f.rules r l).2.a (fh.e c h) (fh.e c h)⟩,u,f.kept.b (au.a c t)⟩
theorem ZZ(h:p:=by
 intro x hx
 rcases mem_append.1 hx with hx|hx
 .exact⟨(hV.rules x hx).1.a kt,(hV.rules x hx).2.a kt kl⟩
 rw[mem_singleton] at hx
 subst hx
 exact⟨hA.a kt,hL.a kt kl⟩):p:=h
theorem abG(h:p:=by exact⟨(hV.rules x hx).1.a kt,(hV.rules x hx).2.a kt kl⟩):p:=h
theorem vw{k:World}{w h:Nat}{o:List Prd}{C:Value}{s:List UInt8}{g:List RV}{y:Value}{l j:List UInt8}{p:Rul}{A z:Value}{m i:World}{u t:Nat}(T:l.length+g.length<=s.length)(M:gV o s s=(gV o l l).bind λE=>some (g.map RV.r++E))(I:l≠[])(D:fu o l=some (p,j))(R:w<k.heap.size)(S:h<w)(hV:bt k w h o C m g y j)(hA:dY k m A p.head.args)(hL:iN k m z p.body)(v:m.grownBy i y.ownBlock)(L:i.ownsRow k.heap.size 58 5 (.slice (some ⟨u,0,none⟩) (g.length+1) t) (g.length+1) (ci g++[.int .i64 p.head.pred,A,.int .i64 p.src,.int .i64 p.n,z])):i.cell? ⟨h,1,none⟩=some y/\i.frozen? ⟨h,1,none⟩=false/\Hid (j.length<l.length/\a8 k w h o C s (i.setCell ⟨h,1,none⟩ (.slice (some ⟨u,0,none⟩) (g.length+1) t)) (g++[⟨p,A,z⟩]) (.slice (some ⟨u,0,none⟩) (g.length+1) t) j):=by
 have q:cR i h C y:=jg v hV.box (iv hV.own hV.box QY);have F:cu i w j:=jg v hV.rest (iv hV.own hV.rest QY);have G:=hV.kept.e v (oG hV.own) Q0;obtain⟨P,H,Q,K⟩:=q.a;have J:=(yK D).1;have kt:fh 100 k m (i.setCell ⟨h,1,none⟩ (.slice (some ⟨u,0,none⟩) (g.length+1) t)):=(fh.d v hV.own QY).b (fh.a q QY);have kl:fh 103 k m (i.setCell ⟨h,1,none⟩ (.slice (some ⟨u,0,none⟩) (g.length+1) t)):=(fh.d v hV.own QY).b (fh.a q QY);have O:fh 51 k m (i.setCell ⟨h,1,none⟩ (.slice (some ⟨u,0,none⟩) (g.length+1) t)):=(fh.d v hV.own QY).b (fh.a q QY);refine⟨H,K,J,q.f _,hV.preds.a O,?_,?_,fP F Q0,G.c,?_,?_⟩
 .rw[D9,length_append];exact jE L q QY
 .exact ZZ
 .rw[length_append,length_singleton];omega
 rw[M];obtain⟨B,N⟩:∃B,l.length=B+1:=⟨l.length-1,Q0⟩;rw[N,gV,if_neg I,D,Option.bind_some];simp only;rw[PP o B j j Q0 Q0];cases gV o j j with
 |none=>rfl
 |some E=>simp
theorem PO{c a}(b:a≠[])(d:fu c a=none):gV c a a=none:=by
 cases f:a.length with
 |zero=>exact absurd (length_eq_zero_iff.1 f) b
 |succ g=>rw[gV,if_neg b,d];rfl
theorem oE{h:World}{b c d g f j}:∀(i:Nat) (a:Value),[b,c,d,g,f][i]? =some a->(h.alloc (.cells #[b,c,d,g,f] j)).cell? ((⟨h,0,none⟩:Addr).add i)=some a:=by
 intro i a hv;match i,hv with
 |0,hv=>
  obtain rfl:b=a:=RX;simp[go_sem]
 |1,hv=>
  obtain rfl:c=a:=RX;simp[go_sem]
 |2,hv=>
  obtain rfl:d=a:=RX;simp[go_sem]
 |3,hv=>
  obtain rfl:g=a:=RX;simp[go_sem]
 |4,hv=>
  obtain rfl:f=a:=RX;simp[go_sem]
 |i+5,hv=>simp at hv
structure aK (w:World) (N:Nat) (wr:World) (ps:List Prd) (pv:Value) (rvs:List RV) (u:Value):Prop where
 box:cR wr N pv u
 out:cR wr w.heap.size (.slice none 0 0) (.slice none 0 0)
 preds:jR w wr pv ps
 own:wr.ownsRow w.heap.size 58 5 u rvs (ci rvs)
 rules:∀x∈rvs,dY w wr x.hv x.r.head.args/\iN w wr x.bv x.r.body
 below:Below w w wr
theorem cR.b{a}{c f:World}{g h}(d:cR c a g h)(i:Below c c f):cR f a g h:=(i.block a d.e).trans d
theorem cR.d{a b k}{f:World}{g h j}(c:cR f a g h)(i:b≠a):cR (f.setCell ⟨b,k,none⟩ j) a g h:=by
 unfold cR at c⊢;rw[h_ i];exact c
theorem aK.a{m:World}{g}{wr n:World}{i j k l}(d:aK m g wr i j k l)(f:Below wr wr n):aK m g n i j k l:=
 ⟨d.box.b f,d.out.b f,d.preds.a (fh.c f),gC d.own f,λo h=>⟨(d.rules o h).1.a (fh.c f),(d.rules o h).2.a (fh.c f) (fh.c f)⟩,d.below.trans (f.mono d.below.size)⟩
theorem vm{w:World}{N}{m h:World}{g n t o q k j}(F:w.heap.size<N)(f:aK w N m g n t o)(G:g.length<4096)(l:m.grownBy h n.ownBlock)(A:h.ownsRow w.heap.size 51 3 (.slice (some ⟨k,0,none⟩) (g.length+1) j) (g.length+1) (dP g++[.string q.name,.int .i64 q.arity,.int .i64 q.kind])):h.cell? N=some n/\h.frozen? N=false/\Hid (aK w N (h.setCell N (.slice (some ⟨k,0,none⟩) (g.length+1) j)) (g++[q]) (.slice (some ⟨k,0,none⟩) (g.length+1) j) t o):=by
 have i:cR h N n o:=jg l f.box (iv f.preds.2 f.box QY);have v:cR h w (.slice none 0 0) (.slice none 0 0):=jg l f.out (iv f.preds.2 f.out QY);have x:=f.below.grown l f.below.size (oG f.preds.2);obtain⟨y,D,z,E⟩:=i.a;have s:fh 100 w m (h.setCell N (.slice (some ⟨k,0,none⟩) (g.length+1) j)):=(fh.d l f.preds.2 QY).b (fh.a i QY);have B:fh 103 w m (h.setCell N (.slice (some ⟨k,0,none⟩) (g.length+1) j)):=(fh.d l f.preds.2 QY).b (fh.a i QY);have C:fh 58 w m (h.setCell N (.slice (some ⟨k,0,none⟩) (g.length+1) j)):=(fh.d l f.preds.2 QY).b (fh.a i QY);refine⟨y,z,i.c _,v.d Q0,⟨by rw[length_append,length_singleton];omega,?_⟩,pm f.own C,λu r=>⟨(f.rules u r).1.a s,(f.rules u r).2.a s B⟩,x.setCell (p:=⟨N,0,none⟩) Tg _⟩;rw[yh,length_append];exact jE A i QY
theorem vu{w:World}{N}{h c:World}{t s g o m r q k j}(E:w.heap.size<N)(hV:aK w N h t s g o)(hA:dY w h r m.head.args)(hL:iN w h q m.body)(l:h.grownBy c o.ownBlock)(A:c.ownsRow w.heap.size 58 5 (.slice (some ⟨k,0,none⟩) (g.length+1) j) (g.length+1) (ci g++[.int .i64 m.head.pred,r,.int .i64 m.src,.int .i64 m.n,q])):c.cell? ⟨N,1,none⟩=some o/\c.frozen? ⟨N,1,none⟩=false/\Hid (aK w N (c.setCell ⟨N,1,none⟩ (.slice (some ⟨k,0,none⟩) (g.length+1) j)) t s (g++[⟨m,r,q⟩]) (.slice (some ⟨k,0,none⟩) (g.length+1) j)):=by
 have i:cR c N s o:=jg l hV.box (iv hV.own hV.box QY);have u:cR c w (.slice none 0 0) (.slice none 0 0):=jg l hV.out (iv hV.own hV.out QY);have v:=hV.below.grown l hV.below.size (oG hV.own);obtain⟨C,y,D,z⟩:=i.a;have kt:fh 100 w h (c.setCell ⟨N,1,none⟩ (.slice (some ⟨k,0,none⟩) (g.length+1) j)):=(fh.d l hV.own QY).b (fh.a i QY);have kl:fh 103 w h (c.setCell ⟨N,1,none⟩ (.slice (some ⟨k,0,none⟩) (g.length+1) j)):=(fh.d l hV.own QY).b (fh.a i QY);have B:fh 51 w h (c.setCell ⟨N,1,none⟩ (.slice (some ⟨k,0,none⟩) (g.length+1) j)):=(fh.d l hV.own QY).b (fh.a i QY);refine⟨y,z,i.f _,u.d Q0,hV.preds.a B,?_,?_,v.setCell (p:=⟨N,1,none⟩) Tg _⟩
 .rw[D9,length_append];exact jE A i QY
 exact ZZ
theorem aa3(h:p:=by
 rw[bY] at hc⊢
 split at hc
 .cases hc
 split at hc
 .cases hc
 rename_i h6
 simp[h6]):p:=h
theorem OD:∀(n b:Nat) (a:List Prd×List Rul) (s:List UInt8),s.length<=n->s.length<=b->jC n a s=jC b a s:=by
 have nil0:∀n a,jC n a []=a:=by intro n a;cases n<;>rfl
 intro n;induction n with
 |zero=>
  intro b a s d f;exact Zy
 |succ n ih=>
  intro b a s d f;cases b with
  |zero=>
   exact Zy
  |succ b=>
   rw[jC,jC];split
   .rfl
   rename_i hs;have g:=je (p:=[10]) Q1 s;have c:=List.length_pos_iff.2 hs
   have i:(bY [10] s).2.1.length<s.length:=by
    cases hc:(bY [10] s).2.2 with
    |true=>have:=g.2.2 hc;omega
    |false=>
     have:(bY [10] s).2.1=[]:=by
      cases s with
      |nil=>rfl
      |cons h s=>
       exact aa3
     rw[this];exact c
   exact ih b _ _ Q0 Q0
def nD(x y:World):Prop:=x.heap.size<=y.heap.size/\∀b o v,x.cell? ⟨b,o,none⟩=some v->(∀s n c,v≠ .slice s n c)->∀k,y.cell? ⟨b,k,none⟩=x.cell? ⟨b,k,none⟩
theorem nD.a{j l m:World}(c:nD j l)(k:nD l m):nD j m:=⟨Nat.le_trans c.1 k.1,λb o i g f h=>by
 have d:=c.2 b o i g f
 rw[<-d h]
 exact k.2 b o i ((d o).trans g) f h⟩
theorem mX{c:World}{b k g i n m e f u p}(j:c.heap[b]? =some (.cells #[.slice g n e,.slice i m f] p (0,0))):nD c (c.setCell ⟨b,k,none⟩ u):=by
 refine⟨Q1,λh o r a d q=>?_⟩
 have l:b≠h:=by
  rintro rfl;simp only[cell?,j] at a;match o with
  |0=>simp at a;exact d _ _ _ a.symm
  |1=>simp at a;exact d _ _ _ a.symm
  |o+2=>simp at a
 simp only[cell?];rw[h_ l]
theorem vy{j:Type}{h}{b:World->Nat->Nat->j->Prop}{f g:World}(m:nD f g)(n:∀c o a,b f c o a->b g c o a){i l}(s:jm h b f i l):jm h b g i l:=by
 obtain⟨a,k,rfl,r,d⟩:=s;refine⟨a,k,rfl,r,?_⟩;rcases d with rfl|⟨c,u,rfl,q,d⟩
 .exact .inl rfl
 exact .inr ⟨c,u,rfl,Nat.lt_of_lt_of_le q m.1,λt a p=>n _ _ _ (d t a p)⟩
theorem qI{d f:World}(a:nD d f){c l}(i:bR d c l):bR f c l:=
 vy a (λk m j ⟨b,g,h⟩=>by have e:=a.2 _ _ _ b Q1;exact⟨(e _).trans b,(e _).trans g,(e _).trans h⟩) i
theorem Fo{d f:World}(a:nD d f){c l}(h:cr d c l):cr f c l:=
 vy a (λj k i ⟨b,g⟩=>by have e:=a.2 _ _ _ b Q1;exact⟨(e _).trans b,(e _).trans g⟩) h
theorem OH{d f:World}(a:nD d f){c l}(j:dC d c l):dC f c l:=
 vy a (λn o m ⟨b,g,k,h,i⟩=>by have e:=a.2 _ _ _ b Q1;exact⟨(e _).trans b,(e _).trans g,k,(e _).trans h,Fo a i⟩) j
theorem qK{d f:World}(a:nD d f){c l}(o:ck d c l):ck f c l:=
 vy a (λs t r n=>by
  obtain⟨b,⟨q,g,h⟩,i,j,p,k,m⟩:=n
  have e:=a.2 _ _ _ b Q1
  exact⟨(e _).trans b,⟨q,(e _).trans g,Fo a h⟩,(e _).trans i,(e _).trans j,p,(e _).trans k,OH a m⟩) o
def xT(B P:Nat)(w:World)(s:List UInt8)(e:Ending)(w':World):Prop:=
 au B P w w'/\match jh s with
  |none=>e=ow
  |some x=>e=.returned (.tuple #[])/\cu w' B []/\∃pv rv,cR w' P pv rv/\jR w w' pv x.1/\kN w w' rv x.2
theorem sM{a b}{c d:World}{s}(f:jh s=none)(g:au a b c d):xT a b c s ow d:=by
 unfold xT;rw[f];exact⟨g,rfl⟩
theorem qG{n}{h:World}{c d}(f:iN n h c d):∃a b,c=.slice a d b:=by
 obtain⟨i,rfl,_,g,_⟩:=f;obtain⟨a,b,rfl⟩:=gk g;exact⟨a,b,Rj⟩
theorem XF(h:p:=by have:=HI.out.len;have:=HS.out;omega):p:=h
theorem XG(h:p:=by show _<=_;have:=HI.out.len;have:=HS.out;omega):p:=h
theorem XH(h:p:=by intro u hu;simp at hu;rcases hu with rfl|rfl|rfl|rfl|rfl<;>rfl):p:=h
theorem aeW(h:p:=by
 go_simp
 refine hK.out _ _ trivial (λhHeld=>?_)
 clear hK K
 try simp only[sq_]
 refine rd_ 7 rfl λK hK=>?_
 refine step_append_lies _ Tv _ _ 28 Tv w 58 i0 (.agg #[.int .i64 0,.slice none 0 0,.int .i64 0,.int .i64 0,.slice none 0 0]) 5 72 underlying28 hi0 hz0 hz1 hz2 Tv Q0 u rvs (ci rvs) Tv HV.out.own ⟨w6,0,none⟩ 1 1 [.int .i64 r.head.pred,.slice ha r.head.args hc,.int .i64 r.src,.int .i64 r.n,.slice ba r.body bc] Tv Tv oE XH Q0 Tt Q0 Tu (w6.heap.size+1) (size_alloc _ _) ?_
 intro g9 cap9 W9 hown9 hgrow9 hat9 hlt9
 obtain⟨n1,n2,HN9⟩:=vw HI.out.len HI.out.eq K1 K2 hB hP HV HOA HOB Tw Tx
 clear hat9 hlt9 hown9 hgrow9
 refine hK.out _ _ trivial (λhHeld=>?_)
 clear hK K
 try simp only[Act.put,setIfInBounds_toArray]
 refine tk_ 8 ?_ rfl ?_ ?_
 rotate_left
 ·(intro w hSw;go_simp;try with_reducible rfl)
 simp only[Act.put]
 refine rd_ 9 rfl λK hK=>?_
 go_simp
 refine hK.out _ _ trivial (λhHeld=>?_)
 clear hK K
 try simp only[sq_]
 refine wpAnyH_done QX ?_ _
 refine NoPanic.normal ?_
 clear n1 n2 q5 q5' q6 qV q6' qV'
 go_wp2_with fail
 go_roundw
 case rel=>exact⟨_,_,_,HN9.out.2⟩
 have h1:=HN9.out;rw[ix h1.2.rest,ix HI.out.rest];exact h1.1):p:=h
theorem adY(h:p:=by
 go_wp2_with fail
 go_roundw
 case rel=>exact⟨_,_,_,HN9.out.2⟩
 have h1:=HN9.out;rw[ix h1.2.rest,ix HI.out.rest];exact h1.1):p:=h
theorem YU(h:p:=by
 go_simp
 refine HT.out.mono ?_
 intro e w6 h6
 obtain⟨rfl,hx6⟩:=h6.b
 clear h6
 exact⟨rfl,sM HNO (HI.out.kept.b (au.a ((Ate.b B wr).a hx6.out) hP))⟩):p:=h
theorem aaA(h:p:=by
 have:=E5 wr.drew B sj (oH HI.out.rest) Tr (.slice pa ps pc) ps HI.out.preds.b
 rw[K2.out] at this
 exact this):p:=h
theorem abe(h:p:=by
 have:=E4 wr.drew B sj (oH HI.out.rest) XF
 rw[K2.out] at this
 exact this):p:=h
theorem aea(h:p:=by
 go_simp
 refine hK.out _ _ trivial (λhHeld=>?_)
 clear hK K
 try simp only[sq_]
 refine rd_ 5 rfl λK hK=>?_
 refine step_append_lies _ Tv _ _ 27 Tv w 51 i0 (.agg #[.string ByteArray.empty,.int .i64 0,.int .i64 0]) 3 32 underlying27 hi0 hz0 hz1 hz2 Tv Q0 u ps (dP ps) Tv HV.out.own ⟨w6,0,none⟩ 1 1 [.string q.name,.int .i64 q.arity,.int .i64 q.kind] Tv Tv mr XC Q0 Tt Q0 Tu (w6.heap.size+1) (size_alloc _ _) ?_
 intro g9 cap9 W9 hown9 hgrow9 hat9 hlt9
 obtain⟨n1,n2,HN9⟩:=yI HI.out.len HI.out.eq K1 K2 hB hP HV Tw Tx
 clear hat9 hlt9 hown9 hgrow9
 refine hK.out _ _ trivial (λhHeld=>?_)
 clear hK K
 try simp only[Act.put,setIfInBounds_toArray]
 refine tk_ 6 ?_ rfl ?_ ?_
 rotate_left
 .exact Yt
 simp only[Act.put]
 refine rd_ 7 rfl λK hK=>?_
 go_simp
 refine hK.out _ _ trivial (λhHeld=>?_)
 clear hK K
 try simp only[sq_]
 refine wpAnyH_done QX ?_ _
 refine NoPanic.normal ?_
 clear n1 n2 q5 q6 qV
 exact adY):p:=h
theorem aeX(h:p:=by
 go_simp
 refine hK.out _ _ trivial (λhHeld=>?_)
 clear hK K
 try simp only[sq_]
 refine rd_ 5 rfl λK hK=>?_
 go_simp
 refine HT.out.mono ?_
 intro e w6 h6
 obtain⟨v,rfl,hv6,hx6⟩:=h6.a
 clear h6
 obtain⟨hv,bv,rfl,hoa,hob⟩:=hv6
 obtain⟨ha,hc,rfl⟩:=gk hoa.2
 obtain⟨ba,bc,rfl⟩:=qG hob
 obtain⟨q6,qV,q6',qV',HV,HOA,HOB,HSE⟩:=HAFT w6 (.slice ha r.head.args hc) (.slice ba r.body bc) hx6.out.1 hx6.out.2 hoa hob
 clear hoa hob
 refine hK.out _ _ trivial (λhHeld=>?_)
 clear hK K
 try simp only[sq_]
 refine rd_ 6 rfl λK hK=>?_
 exact aeW):p:=h
theorem ab5(h:p:=by
 go_simp
 refine hK.out _ _ trivial (λhHeld=>?_)
 clear hK K
 try simp only[sq_]
 refine rd_ 5 rfl λK hK=>?_
 exact YU):p:=h
theorem ach(h:p:=by
 refine AllReadyH.cons rfl (λK hK=>?_) AllReadyH.nil
 exact YU):p:=h
theorem aeG(h:p:=by
 refine hK.out _ _ trivial (λhHeld=>?_)
 clear hK K
 try simp only[sq_]
 refine rd_ 4 rfl λK hK=>?_
 exact aea):p:=h
theorem Pt(w:World)(B g s)(z:cu w B s)(I:s.length<=4096)(H:cR w g (.slice none 0 0) (.slice none 0 0))(hP:g<B):Calls prog 17 #[.pointer (some ⟨B,0,none⟩),.pointer (some ⟨g,0,none⟩)] w (xT B g w s):=by
 have hB:=iy z;have HS:=hid_ I;have m:Hid (a7 w B g s w [] (.slice none 0 0) s):=⟨H,⟨rfl,.inl ⟨rfl,rfl⟩⟩,z,au.f _ _ _,Q1,by cases fO s s<;>rfl⟩;clear z I H;go_enter func17,ntmps17;go_wp2_with fail;go_loopw [3] (λ_ wr=>∃(ps:List Prd) (u:Value) (sj:List UInt8),Hid (a7 w B g s wr ps u sj)) (λ_ wr=>sP wr B)
 case atStart=>exact⟨[],_,s,m⟩
 clear m;obtain⟨ps,u,sj,HI⟩:=hrel;have h:=N9 wr B sj HI.out.rest;cases p:jV sj with
 |true=>
  have K1:=hid_ p;rw[p] at h;clear p;go_wp2_with fail;refine mo_ h λT C=>?_;obtain rfl:=C.symm;clear h;have q5:wr.drew.cell? g=some u:=HI.out.box.a.1;go_wp2_with fail;cases i:e8 sj with
  |none=>
   have K2:=hid_ i;clear i
   have HT:Hid (Calls prog 19 #[.pointer (some ⟨B,0,none⟩)] wr.drew (gD B wr.drew none λq v _=>v=fS q)):=by
    exact abe
   have HNO:Hid (jh s=none):=by
    show _=_;unfold jh;rw[HI.out.eq,O7 K1 K2.out];rfl
   refine wp_region_held_drew (S:=(λ_:World=>True)) QX trivial (λhHeld=>?_);refine tk_ 0 ?_ rfl ?_ ?_;rotate_left
   .exact Yt
   simp only[Act.put];refine tk_ 2 ?_ rfl ?_ ?_;rotate_left
   .exact Yt
   simp only[Act.put];refine wpAnyH_ready (rs:=[1,3]) QX Q1 ?_;refine AllReadyH.cons rfl (λK hK=>?_) ?_
   .go_simp;refine hK.out _ _ trivial (λhHeld=>?_);clear hK K;try simp only[sq_]
    refine rd_ 3 rfl λK hK=>?_;exact YU
   exact ach
  |some x=>
   obtain⟨q,l⟩:=x;have K2:=hid_ i;clear i;obtain⟨i0,hi0,hz0,hz1,hz2⟩:=info_parts pf
   have HAFT:Hid (∀w6,cu w6 B l->Ate B wr.drew w6->w6.cell? g=some u/\(w6.alloc (.cells #[.string q.name,q.arity,q.kind] 51)).cell? g=some u/\Hid (bw w B g (w6.alloc (.cells #[.string q.name,q.arity,q.kind] 51)) ps u l)/\Hid (w.heap.size<=w6.heap.size+1/\(w6.alloc (.cells #[.string q.name,q.arity,q.kind] 51)).heap.size=w6.heap.size+1)):=λw6 k ha=>by
    have h1:=HI.out.a ((Ate.b B wr).a ha) hB hP k;have A:Ate B w6 (w6.alloc (.cells #[.string q.name,q.arity,q.kind] 51)):=Ate.c (bH _ _) (le_of_lt (iy k));have o:=HI.out.a ((Ate.b B wr).a (ha.a A)) hB hP (ji k (bH w6 (.cells #[.string q.name,q.arity,q.kind] 51)));refine⟨h1.box.a.1,o.box.a.1,o,?_,size_alloc _ _⟩;have:=h1.kept.d;omega
   have P:ps.length<=4096:=XF
   have HT:Hid (Calls prog 19 #[.pointer (some ⟨B,0,none⟩)] wr.drew (gD B wr.drew (some (q,l)) λq v _=>v=fS q)):=by
    exact abe
   refine wp_region_noPanic ?_;refine wp_region_held_drew (S:=(λ_:World=>True)) QX trivial (λhHeld=>?_);refine tk_ 0 ?_ rfl ?_ ?_;rotate_left
   .exact Yt
   simp only[Act.put];refine tk_ 2 ?_ rfl ?_ ?_;rotate_left
   .exact Yt
   simp only[Act.put];refine wpAnyH_ready (rs:=[1,3]) QX Q1 ?_;refine AllReadyH.cons rfl (λK hK=>?_) ?_
   .go_simp;refine hK.out _ _ trivial (λhHeld=>?_);clear hK K;try simp only[sq_]
    refine rd_ 3 rfl λK hK=>?_;go_simp;refine HT.out.mono ?_;intro e w6 h6;obtain⟨v,rfl,rfl,hx6⟩:=h6.a;clear h6;unfold fS;obtain⟨q6,qV,HV,HSE⟩:=HAFT w6 hx6.out.1 hx6.out.2;exact aeG
   refine AllReadyH.cons rfl (λK hK=>?_) AllReadyH.nil;go_simp;refine HT.out.mono ?_;intro e w6 h6;obtain⟨v,rfl,rfl,hx6⟩:=h6.a;clear h6;unfold fS;obtain⟨q6,qV,HV,HSE⟩:=HAFT w6 hx6.out.1 hx6.out.2;refine hK.out _ _ trivial (λhHeld=>?_);clear hK K;try simp only[sq_]
   refine wpAnyH_ready (rs:=[1,4]) QX Q1 ?_;refine AllReadyH.cons rfl (λK hK=>?_) ?_
   .go_simp;exact aeG
   refine AllReadyH.cons rfl (λK hK=>?_) AllReadyH.nil;go_simp;refine hK.out _ _ trivial (λhHeld=>?_);clear hK K;try simp only[sq_]
   refine rd_ 1 rfl λK hK=>?_;exact aea
 |false=>
  have y:Hid (fO s s=some (ps,sj)):=by
   show _=_;rw[HI.out.eq,O8 p];simp
  rw[p] at h;clear p;go_wp2_with fail;refine mo_ h λT C=>?_;obtain rfl:=C.symm;clear h;have HS1:Hid (sj.length<=4096):=XG;have N:Hid (ps.length<=4096):=XG;obtain⟨pa,pc,rfl⟩:=gk HI.out.own;have m:Hid (a8 w B g ps (.slice pa ps pc) sj wr [] (.slice none 0 0) sj):=⟨HI.out.box,⟨N.out,HI.out.own⟩,⟨rfl,.inl ⟨rfl,rfl⟩⟩,(λx R=>absurd R (not_mem_nil)),HI.out.rest,HI.out.kept,Q1,by cases gV ps sj sj<;>rfl⟩;clear HI;obtain⟨L,J⟩:=ex_ sj;rw[J] at y HS1 m;clear J;go_wp2_with fail;go_loopw [12] (λ_ wr=>∃(rvs:List RV) (u:Value) (sj:List UInt8),Hid (a8 w B g ps (.slice pa ps pc) L wr rvs u sj)) (λ_ wr=>sP wr B)
  case atStart=>exact⟨[],_,L,m⟩
  clear m;obtain⟨rvs,u,sj,HI⟩:=hrel;have h:=Et wr B sj HI.out.rest;by_cases j:sj=[]
  .have M:Hid (jh s=some (ps,rvs.map RV.r)):=by
    show _=_;unfold jh;rw[y.out,Option.bind_some];simp only;rw[HI.out.eq,j];simp[gV]
   have O:Hid (cu wr B []):=by have:=HI.out.rest;rw[j] at this;exact this
   have t:decide (sj=[])=true:=by simp[j]
   rw[t] at h;clear t j;go_wp2_with fail;refine mo_ h λU D=>?_;obtain rfl:=D.symm;clear h;go_wp2_with fail;go_end0;refine⟨HI.out.kept,?_⟩;rw[M.out];exact⟨rfl,O.out,_,_,HI.out.box,HI.out.preds,rvs,rfl,Tr,HI.out.own,HI.out.rules⟩
  have K1:Hid (sj≠[]):=j;have t:decide (sj=[])=false:=by simp[j]
  rw[t] at h;clear t j;go_wp2_with fail;refine mo_ h λU D=>?_;obtain rfl:=D.symm;clear h;have q5:wr.drew.cell? ⟨g,1,none⟩=some u:=HI.out.box.a.2.1;have q5':wr.drew.cell? g=some (.slice pa ps pc):=HI.out.box.a.1;go_wp2_with fail;cases i:fu ps sj with
  |none=>
   have K2:=hid_ i;clear i
   have HT:Hid (Calls prog 21 #[.slice pa ps pc,.pointer (some ⟨B,0,none⟩)] wr.drew (gD B wr.drew none λr v F=>se wr.drew.heap.size r v F)):=by
    exact aaA
   have HNO:Hid (jh s=none):=by
    show _=_;unfold jh;rw[y.out,Option.bind_some];simp only;rw[HI.out.eq,PO K1 K2.out];rfl
   refine wp_region_held_drew (S:=(λ_:World=>True)) QX trivial (λhHeld=>?_);refine tk_ 0 ?_ rfl ?_ ?_;rotate_left
   .exact Yt
   simp only[Act.put];refine tk_ 2 ?_ rfl ?_ ?_;rotate_left
   .exact Yt
   simp only[Act.put];refine tk_ 4 ?_ rfl ?_ ?_;rotate_left
   .exact Yt
   simp only[Act.put];refine wpAnyH_ready (rs:=[1,3]) QX Q1 ?_;refine AllReadyH.cons rfl (λK hK=>?_) ?_
   .go_simp;refine hK.out _ _ trivial (λhHeld=>?_);clear hK K;try simp only[sq_]
    refine rd_ 3 rfl λK hK=>?_;exact ab5
   refine AllReadyH.cons rfl (λK hK=>?_) AllReadyH.nil;go_simp;refine hK.out _ _ trivial (λhHeld=>?_);clear hK K;try simp only[sq_]
   refine wpAnyH_ready (rs:=[1,5]) QX Q1 ?_;refine AllReadyH.cons rfl (λK hK=>?_) ?_
   .exact ab5
   exact ach
  |some x=>
   obtain⟨r,l⟩:=x;have K2:=hid_ i;clear i;obtain⟨i0,hi0,hz0,hz1,hz2⟩:=info_parts lh
   have HAFT:Hid (∀w6 hv bv,cu w6 B l->Ate B wr.drew w6->dY wr.drew.heap.size w6 hv r.head.args->iN wr.drew.heap.size w6 bv r.body->w6.cell? ⟨g,1,none⟩=some u/\(w6.alloc (.cells #[r.head.pred,hv,r.src,r.n,bv] 58)).cell? ⟨g,1,none⟩=some u/\w6.cell? g=some (.slice pa ps pc)/\(w6.alloc (.cells #[r.head.pred,hv,r.src,r.n,bv] 58)).cell? g=some (.slice pa ps pc)/\Hid (bt w B g ps (.slice pa ps pc) (w6.alloc (.cells #[r.head.pred,hv,r.src,r.n,bv] 58)) rvs u l)/\Hid (dY w (w6.alloc (.cells #[r.head.pred,hv,r.src,r.n,bv] 58)) hv r.head.args)/\Hid (iN w (w6.alloc (.cells #[r.head.pred,hv,r.src,r.n,bv] 58)) bv r.body)/\Hid (w.heap.size<=w6.heap.size+1/\(w6.alloc (.cells #[r.head.pred,hv,r.src,r.n,bv] 58)).heap.size=w6.heap.size+1)):=λw6 hv bv k ha Q hob=>by
    have h1:=HI.out.a ((Ate.b B wr).a ha) hB hP k;have A:Ate B w6 (w6.alloc (.cells #[r.head.pred,hv,r.src,r.n,bv] 58)):=Ate.c (bH _ _) (le_of_lt (iy k));have o:=HI.out.a ((Ate.b B wr).a (ha.a A)) hB hP (ji k (bH w6 (.cells #[r.head.pred,hv,r.src,r.n,bv] 58)));have G:w.heap.size<=wr.drew.heap.size:=HI.out.kept.d;have E:∀e,fh e w.heap.size w6 (w6.alloc (.cells #[r.head.pred,hv,r.src,r.n,bv] 58)):=λe=>fh.c (bH _ _);refine⟨h1.box.a.2.1,o.box.a.2.1,h1.box.a.1,o.box.a.1,o,(Q.b G).a (E _),(hob.b G).a (E _) (E _),?_,size_alloc _ _⟩;have:=h1.kept.d;omega
   have P:rvs.length<=4096:=Tr
   have HT:Hid (Calls prog 21 #[.slice pa ps pc,.pointer (some ⟨B,0,none⟩)] wr.drew (gD B wr.drew (some (r,l)) λr v F=>se wr.drew.heap.size r v F)):=by
    exact aaA
   refine wp_region_noPanic ?_;refine wp_region_held_drew (S:=(λ_:World=>True)) QX trivial (λhHeld=>?_);refine tk_ 0 ?_ rfl ?_ ?_;rotate_left
   .exact Yt
   simp only[Act.put];refine tk_ 2 ?_ rfl ?_ ?_;rotate_left
   .exact Yt
   simp only[Act.put];refine tk_ 4 ?_ rfl ?_ ?_;rotate_left
   .exact Yt
   simp only[Act.put];refine wpAnyH_ready (rs:=[1,3]) QX Q1 ?_;refine AllReadyH.cons rfl (λK hK=>?_) ?_
   .go_simp;refine hK.out _ _ trivial (λhHeld=>?_);clear hK K;try simp only[sq_]
    refine rd_ 3 rfl λK hK=>?_;exact aeX
   refine AllReadyH.cons rfl (λK hK=>?_) AllReadyH.nil;go_simp;refine hK.out _ _ trivial (λhHeld=>?_);clear hK K;try simp only[sq_]
   refine wpAnyH_ready (rs:=[1,5]) QX Q1 ?_;refine AllReadyH.cons rfl (λK hK=>?_) ?_
   .exact aeX
   refine AllReadyH.cons rfl (λK hK=>?_) AllReadyH.nil;go_simp;refine HT.out.mono ?_;intro e w6 h6;obtain⟨v,rfl,hv6,hx6⟩:=h6.a;clear h6;obtain⟨hv,bv,rfl,hoa,hob⟩:=hv6;obtain⟨ha,hc,rfl⟩:=gk hoa.2;obtain⟨ba,bc,rfl⟩:=qG hob;obtain⟨q6,qV,q6',qV',HV,HOA,HOB,HSE⟩:=HAFT w6 (.slice ha r.head.args hc) (.slice ba r.body bc) hx6.out.1 hx6.out.2 hoa hob;clear hoa hob;refine hK.out _ _ trivial (λhHeld=>?_);clear hK K;try simp only[sq_]
   refine wpAnyH_ready (rs:=[1,6]) QX Q1 ?_;refine AllReadyH.cons rfl (λK hK=>?_) ?_
   .go_simp;refine hK.out _ _ trivial (λhHeld=>?_);clear hK K;try simp only[sq_]
    refine rd_ 6 rfl λK hK=>?_;exact aeW
   refine AllReadyH.cons rfl (λK hK=>?_) AllReadyH.nil;go_simp;refine hK.out _ _ trivial (λhHeld=>?_);clear hK K;try simp only[sq_]
   refine rd_ 1 rfl λK hK=>?_;exact aeW
