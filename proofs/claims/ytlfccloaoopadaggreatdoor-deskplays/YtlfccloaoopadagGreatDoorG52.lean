import Derived.Test.YtlfccloaoopadagGreatDoorG2
import Derived.Test.YtlfccloaoopadagGreatDoorG23
import Derived.Test.YtlfccloaoopadagGreatDoorG30
open Go.Proofs.Tryz
set_option maxRecDepth 100000
set_option maxHeartbeats 0
open Or (inl)
namespace Go.Proofs.YtlfccloaoopadagGreatDoor
open Go.ChangeShapes Go.WideShapes Go.ChangeAt Go.RowKit Go.Maps
variable{p:Prop}
def m8(D:DataW Unit)(f:Int->Option Int):Prop:=IsMap D/\∀v:Int,0<=v->v<=2->D.atKey (.int .i64 v) (.lit (.int .i64 0))=.lit (.int .i64 ((f v).getD 0))/\has D (.int .i64 v)=(f v).isSome
theorem FJ:m8 (.map []) (λ_=>none):=⟨isMap_empty,λ_ _ _=>⟨rfl,rfl⟩⟩
theorem m8.a{c:DataW Unit}{f d:Int->Option Int}(g:m8 c f)(e:∀b,d b=f b):m8 c d:=⟨g.1,λb h i=>by rw[e];exact g.2 b h i⟩
theorem m8.b{d:DataW Unit}{f h:Int->Option Int}{n g}(c:m8 d f)(i:∀a,h a=if a=n then some g else f a):m8 (d.put (.int .i64 n) (.lit (.int .i64 g))) h:=by
 obtain⟨m,j⟩:=c.1;refine⟨⟨_,by rw[j];rfl⟩,λa k l=>?_⟩;by_cases e:a=n
 .subst e;rw[atKey_put_same c.1 TY,has_put_same c.1 TY,i,if_pos rfl];exact⟨rfl,rfl⟩
 rw[atKey_put_other RD,has_put_other RD,i,if_neg e];exact c.2 a k l
theorem FQ{n}(a:0<=n)(b:n<=4):(Lit.int .i64 n).wf=true:=by
 rcases(show n=0\/n=1\/n=2\/n=3\/n=4 by omega) with rfl|rfl|rfl|rfl|rfl<;>rfl
theorem FO{b:World}{h n}{g:DataW Unit}{f:Int->Option Int}(a:jt b h n g)(i:m8 g f){e}(c:0<=e)(d:e<=2):(Instr.lookup 232 (.map (some h)) (.int .i64 e) true).run prog b=.ok (.tuple #[.int .i64 ((f e).getD 0),.bool (f e).isSome]) b:=by
 obtain⟨p,o,k,m⟩:=a.look_ok p_ underlying232 (qf b) (plainElem_int underlying3 SN) (keyOf_int_mk underlying3 (rK c d));obtain⟨l,rfl,j,_⟩:=plainElem_int_inv underlying3 m;rw[(i.2 e c d).1] at j;rw[(i.2 e c d).2] at k;have:l=(f e).getD 0:=by have a:=j.symm;simp at a;exact a.1
 rw[<-this];exact k
theorem zr{a:World}{c n}{b:DataW Unit}{f:Int->Option Int}(j:jt a c n b)(k:m8 b f){e}(d:0<=e)(g:e<=2):(Instr.lookup 232 (.map (some c)) (.int .i64 e) false).run prog a=.ok (.int .i64 ((f e).getD 0)) a:=by
 obtain⟨i,l,h,_⟩:=j.lookup_int p_ underlying232 underlying3 (qf _) (keyOf_int_mk underlying3 (rK d g));rw[(k.2 e d g).1] at h;have:i=(f e).getD 0:=by simpa using h.symm
 rw[<-this];exact l
theorem Ya(h:p:=by have:=hmap.out.2.1;omega):p:=h
theorem Yb(h:p:=by cases h.1):p:=h
theorem Zc(h:p:=by (intro w hSw;(try dsimp only at hSw);obtain⟨h0,h1⟩:=hSw;go_simp;try with_reducible rfl)):p:=h
theorem aaY(h:p:=by
 have:(tn==m)=false:=by simpa using λh=>hm h.symm
 cases eB x ts k m<;>simp[this]):p:=h
theorem abC(h:p:=by
 go_wp2_with fail
 go_ret
 exact⟨by rw[HN2.out];rfl,HB2.out.1⟩):p:=h
theorem aep(h:p:=by
 go_wp2_with fail
 go_roundw
 case rel=>exact⟨k+1,n,D,Q0,Rv,HF2,HB2.out.1,HB2.out.2.1,HB2.out.2.2.1,HB2.out.2.2.2,HM2.out,Ya,hmap.out.2.2.a HBB.out⟩
 exact S6):p:=h
theorem FM(w:World)(Z ts x)(ag:cr w Z ts)(aa:ts.length<=2)(aF:∀E∈ts,E.var=true->0<=E.n/\E.n<=2)(ac:0<=x.a/\x.a<=4)(ad:0<=x.b/\x.b<=4):Calls prog 129 #[Z,.agg #[.int .i64 x.pred,.int .i64 x.a,.int .i64 x.b,.int .i64 x.val]] w λe j=>e=.returned (.bool (kV x ts))/\Below w w j:=by
 have aB:=@run_makeMap prog;have ar:=lt_ ag;obtain⟨aw,K,rfl,_⟩:=ag;obtain⟨p,hW1⟩:=ex_ (((w.alloc (.cells #[.int .i64 x.pred,.int .i64 x.a,.int .i64 x.b,.int .i64 x.val] 93)).alloc (.cells #[.int .i64 x.a,.int .i64 x.b] 231)).alloc (.map #[] 0));have ax:Below w w p:=by rw[<-hW1];exact(((Below.refl _ _).alloc (Nat.le_refl _) _).alloc Q1 _).alloc RD _
 have aU:p.heap.size=w.heap.size+1+1+1:=UA;have aG:p.cell? ⟨w.heap.size+1,0,none⟩=some (.int .i64 x.a):=UB;have aH:p.cell? ⟨w.heap.size+1,1,none⟩=some (.int .i64 x.b):=UB
 have aI:jt p (w.heap.size+1+1) 0 (.map []):=by
  have h:=World.ownsMap_made (P:=prog) (k:=3) (R:=plainElem (H:=Unit) prog 3) ((w.alloc (.cells #[.int .i64 x.pred,.int .i64 x.a,.int .i64 x.b,.int .i64 x.val] 93)).alloc (.cells #[.int .i64 x.a,.int .i64 x.b] 231));rw[World.size_alloc,World.size_alloc] at h;rw[<-hW1];exact h
 go_enter func129,ntmps129;go_wp2_with fail;clear hW1 aB;go_loopw [20] (λo wr=>∃(k n:Nat) (D:DataW Unit),k<=ts.length/\o=.int .i64 k/\Hid (gX x ts k=true)/\Below w w wr/\p.heap.size<=wr.heap.size/\wr.cell? ⟨w.heap.size+1,0,none⟩=some (.int .i64 x.a)/\wr.cell? ⟨w.heap.size+1,1,none⟩=some (.int .i64 x.b)/\Hid (jt wr (w.heap.size+1+1) n D/\n<=k/\m8 D (eB x ts k))) (λo _=>ts.length-(intOf o).toNat)
 case atStart=>exact⟨0,0,_,Nat.zero_le _,rfl,rfl,ax,Nat.le_refl _,aG,aH,aI,Nat.le_refl _,FJ⟩
 obtain⟨k,n,D,aN,rfl,ae,I,aE,s,t,hmap⟩:=hrel;by_cases C:k<ts.length
 .obtain⟨A,B,aL,ai,aQ,aj,ak⟩:=cN (ar wr I) C;obtain⟨rfl,rfl⟩:aw=some ⟨A,B,none⟩/\K=aL:=by simpa using ai
  have aO:(k:Int)<(ts.length:Int):=Q0;have aP:(k:Int)<2:=Q0;have ah:=aF _ (List.getElem_mem C);have d:Hid (gX x ts (k+1)=(gX x ts k&&m9 x ts k ts[k])):=vP C;have f:=hid_ λ(h:m9 x ts k ts[k]=false)=>zo C h;have l:Hid (∀m,eB x ts (k+1) m=match eB x ts k m with|some u=>some u|none=>if ts[k].var&&ts[k].n==m then some (j8 x k) else none):=zm C;have aJ:wr.cell? ⟨A,B+k*2,none⟩=some (.bool ts[k].var):=aj;have aK:wr.cell? ⟨A,B+k*2+1,none⟩=some (.int .i64 ts[k].n):=ak
  have J:Hid (0<=j8 x k/\j8 x k<=4/\wr.cell? ⟨w.heap.size+1,k,none⟩=some (.int .i64 (j8 x k))):=by
   obtain rfl|rfl:k=0\/k=1:=Q0
   .exact⟨ac.1,ac.2,s⟩
   exact⟨ad.1,ad.2,t⟩
  clear ai aj ak;unfold m9 at d f;rw[ae.out,Bool.true_and] at d;generalize ts[k]=E at*;obtain⟨U,tn⟩:=E;dsimp only at d f l ah aJ aK;generalize j8 x k=c at*;obtain⟨g,G⟩:=ex_ (wr.alloc (.cells #[.bool U,.int .i64 tn] 100));have z:Below wr wr g:=by rw[<-G];exact bH _ _
  have aV:g.heap.size=wr.heap.size+1:=by rw[<-G];simp
  have aM:g.cell? wr=some (.bool U):=by rw[<-G];simp[go_sem]
  have W:g.cell? ⟨wr,1,none⟩=some (.int .i64 tn):=by rw[<-G];simp[go_sem]
  have X:g.cell? ⟨w.heap.size+1,k,none⟩=some (.int .i64 c):=(bF z Q0).trans J.out.2.2;have HB2:Hid (Below w w g/\p.heap.size<=g.heap.size/\g.cell? ⟨w.heap.size+1,0,none⟩=some (.int .i64 x.a)/\g.cell? ⟨w.heap.size+1,1,none⟩=some (.int .i64 x.b)):=⟨I.trans (z.mono I.size),Nat.le_trans aE z.size,(bF z Q0).trans s,(bF z Q0).trans t⟩;have HM2:Hid (jt g (w.heap.size+1+1) n D):=qd hmap.out.1 z;cases U
  .have HBB:Hid (∀m,eB x ts (k+1) m=eB x ts k m):=λm=>by rw[l m];cases eB x ts k m<;>simp
   simp only[Bool.false_eq_true,if_false] at d f;by_cases hn:tn=c
   .have N:(tn==c)=true:=TD;have O:(tn != c)=false:=TD;have HF2:Hid (gX x ts (k+1)=true):=by show _=_;rw[d.out,N]
    clear d f l hn s t;exact aep
   have N:(tn==c)=false:=TD;have O:(tn != c)=true:=TD;have HN2:Hid (kV x ts=false):=f N;clear d f l hn s t;exact abC
  have r:=ah rfl;simp only[if_true] at d f;have M:=FO HM2 hmap.out.2.2 r.1 r.2;cases q:eB x ts k tn with
  |none=>
   rw[q] at d f M;have HF2:Hid (gX x ts (k+1)=true):=d.out
   have HBB:Hid (∀m,eB x ts (k+1) m=if m=tn then some c else eB x ts k m):=λm=>by
    rw[l m];by_cases hm:m=tn
    .rw[hm,q,if_pos rfl];simp
    rw[if_neg hm];exact aaY
   obtain⟨i,aD,aC,L⟩:=(qd HM2 ((Below.refl _ _).drew)).update (e:=3) p_ underlying232 (by have:=hmap.out.2.1;unfold maxLen;omega) (keyOf_int_mk underlying3 (rK r.1 r.2)) (plainElem_int (a:=c) underlying3 (FQ J.out.1 J.out.2.1));clear d f l q s t;go_wp2_with fail
   have v:Hid ((λj:World=>j.cell? ⟨wr,1,none⟩=some (.int .i64 tn)/\j.cell? ⟨w.heap.size+1,k,none⟩=some (.int .i64 c)) i/\Below w w i/\p.heap.size<=i.heap.size/\i.cell? ⟨w.heap.size+1,0,none⟩=some (.int .i64 x.a)/\i.cell? ⟨w.heap.size+1,1,none⟩=some (.int .i64 x.b)):=by
    have e:∀y T,y<g.heap.size->y≠w.heap.size+1+1->i.cell? ⟨y,T,none⟩=g.cell? ⟨y,T,none⟩:=λy T h1 aa=>World.cell?_of_block (L.block y h1 (λe=>aa (by cases e;rfl)));have az:Below w w i:=((HB2.out.1.drew).grown L (Nat.le_trans Q0 HB2.out.2.1) (λaR e=>by cases e;omega));have ay:=HB2.out.2.1;exact⟨⟨(e _ _ Q0 Q0).trans W,(e _ _ Q0 Q0).trans X⟩,az,Nat.le_trans ay L.size,(e _ _ Q0 Q0).trans HB2.out.2.2.1,(e _ _ Q0 Q0).trans HB2.out.2.2.2⟩
   have F:Hid (jt i (w.heap.size+1+1) (n+1) (D.put (.int .i64 tn) (.lit (.int .i64 c)))/\m8 (D.put (.int .i64 tn) (.lit (.int .i64 c))) (eB x ts (k+1))):=⟨aC,hmap.out.2.2.b HBB.out⟩
   have af:(Instr.lookup 232 (.map (some (w.heap.size+1+1))) (.int .i64 tn) false).run prog i=.ok (.int .i64 c) i:=by
    have h:=zr F.out.1 F.out.2 r.1 r.2;rw[HBB tn,if_pos rfl] at h;exact h
   refine wp_mono (Q:=λe Y j=>e=.normal/\j=i/\∃al am an ao ap aq:Value,Y={tmps:=#[.slice (some ⟨A,B,none⟩) ts.length K,.agg #[.int .i64 x.pred,.int .i64 x.a,.int .i64 x.b,.int .i64 x.val],undef,.pointer (some ⟨w,0,none⟩),u4,.pointer (some ⟨w.heap.size+1,0,none⟩),.map (some (w.heap.size+1+1)),.int .i64 (k:Int),.pointer (some ⟨wr,0,none⟩),.int .i64 tn,.int .i64 0,.bool false,.pointer (some ⟨w,1,none⟩),.int .i64 x.a,.pointer (some ⟨w,2,none⟩),.int .i64 x.b,.agg #[.int .i64 x.a,.int .i64 x.b],.map (some (w.heap.size+1+1)),.slice (some ⟨A,B,none⟩) ts.length K,.int .i64 (ts.length:Int),.int .i64 (k:Int),.bool true,.int .i64 (k:Int),.pointer (some ⟨A,B+k*2,none⟩),.agg #[.bool true,.int .i64 tn],.pointer (some ⟨wr,1,none⟩),.int .i64 tn,.pointer (some ⟨wr,0,none⟩),.bool true,.tuple #[.int .i64 0,.bool false],.map (some (w.heap.size+1+1)),.pointer (some ⟨wr,1,none⟩),.int .i64 tn,.tuple #[.int .i64 0,.bool false],.int .i64 0,.bool false,.bool false,.bool true,al,am,an,ao,ap,aq,u44,u45,u46,u47,u48,u49,u50,u51,u52,u53],defers:=[]}) ?reg ?rest
   case reg=>
    refine wp_region_held_drew (S:=(λj:World=>j.cell? ⟨wr,1,none⟩=some (.int .i64 tn)/\j.cell? ⟨w.heap.size+1,k,none⟩=some (.int .i64 c))) SI ⟨W,X⟩ (λaA=>?_);refine wpAnyH_take (i:=0) (v:=?_) rfl SI SI SI (λ_ _ _ h=>Yb) (inl ⟨by rfl,?_⟩) Q7 ?_;rotate_left
    .exact Zc
    try simp only[Act.put,List.setIfInBounds_toArray]
    refine wpAnyH_take (i:=1) (v:=?_) rfl SI SI SI (λ_ _ _ h=>Yb) (inl ⟨by rfl,?_⟩) Q7 ?_;rotate_left
    .exact Zc
    simp only[Act.put];refine wpAnyH_take (i:=2) (v:=?_) rfl SI SI SI (λ_ _ _ h=>Yb) (inl ⟨by rfl,?_⟩) Q7 ?_;rotate_left
    .exact Zc
    simp only[Act.put];refine wpAnyH_take (i:=3) (v:=?_) rfl SI SI SI (λ_ _ _ h=>Yb) (inl ⟨by rfl,?_⟩) Q7 ?_;rotate_left
    .exact Zc
    simp only[Act.put];refine wpAnyH_take (i:=4) (v:=?_) rfl SI SI SI (λ_ _ _ h=>Yb) (inl ⟨by rfl,?_⟩) Q7 ?_;rotate_left
    .exact Zc
    simp only[Act.put];refine wpAnyH_take (i:=5) (v:=?_) rfl SI SI SI (λ_ _ _ h=>Yb) (inl ⟨by rfl,?_⟩) Q7 ?_;rotate_left
    .exact Zc
    simp only[Act.put];refine rd_ 6 rfl λav ab=>?_;go_simp;refine ab.out _ _ ?_ (λaA=>?_)
    .exact v.out.1
    clear ab av;try simp only[sq_]
    refine wpAnyH_done SI ?_ _;refine⟨rfl,rfl,?_⟩;(repeat apply Exists.intro);rfl
   rintro e Y j ⟨rfl,rfl,al,am,an,ao,ap,aq,rfl⟩;obtain⟨⟨aS,aT⟩,_⟩:=v.out;clear aM W X M aD;go_wp2_with fail;go_roundw
   case rel=>exact⟨k+1,n+1,_,Q0,Rv,HF2,v.out.2.1,v.out.2.2.1,v.out.2.2.2.1,v.out.2.2.2.2,F.out.1,Ya,F.out.2⟩
   exact S6
  |some V=>
   rw[q] at d f M;have af:=zr HM2 hmap.out.2.2 r.1 r.2;rw[q] at af
   have HBB:Hid (∀m,eB x ts (k+1) m=eB x ts k m):=λm=>by
    rw[l m];by_cases hm:m=tn
    .rw[hm,q]
    exact aaY
   by_cases hn:V=c
   .have O:(V != c)=false:=TD;have HF2:Hid (gX x ts (k+1)=true):=by show _=_;rw[d.out];simpa using hn
    clear d f l hn q s t;exact aep
   have O:(V != c)=true:=TD;have HN2:Hid (kV x ts=false):=f TD;clear d f l hn q s t;exact abC
 obtain rfl:k=ts.length:=Q0;have au:Hid (kV x ts=true):=ae.out;go_wp2_with fail;go_ret;exact⟨by rw[au.out];rfl,I⟩
