import Derived.Test.YtlfccloaoopadagGreatDoorG19
import Derived.Test.YtlfccloaoopadagGreatDoorG28
import Derived.Test.YtlfccloaoopadagGreatDoorG31
open Go.Proofs.Tryz
set_option maxRecDepth 100000
set_option maxHeartbeats 0
open ByteArray (size_append)
open List (append_assoc getElem_mem length_take setIfInBounds_toArray set_cons_succ set_cons_zero take_length)
open Or (inl)
namespace Go.Proofs.YtlfccloaoopadagGreatDoor
open Go.ChangeShapes Go.WideShapes Go.ChangeAt Go.RowKit
variable{p:Prop}
def pq(ps:List Prd)(rs:List Rul):ByteArray:=if bP ps rs=0 then ko ps rs else⟨#[]⟩
theorem aaq(h:p:=by
 rw[List.take_succ_eq_append_getElem hj,List.flatMap_append]
 simp):p:=h
theorem O5{b:List Prd}{a:Nat}(hj:a<b.length):(b.take (a+1)).flatMap fk=(b.take a).flatMap fk++fk b[a]:=by
 exact aaq
theorem PM{c:List Prd}{b:List Rul}{a:Nat}(hj:a<b.length):(b.take (a+1)).flatMap (eT c)=(b.take a).flatMap (eT c)++eT c b[a]:=by
 exact aaq
theorem Uj(h:p:=by rw[<-hNB];simp[go_sem]):p:=h
theorem YM(h:p:=by (intro w hSw;obtain⟨k0,k1,k2⟩:=HKC w hSw;go_simp;try with_reducible rfl)):p:=h
theorem abd(h:p:=by
 simp only[size_append]
 have e1:(⟨#[46,10]⟩:ByteArray).size=2:=rfl
 omega):p:=h
theorem Np(w:World)(ah an b g)(ad:bR w ah b)(ae:ck w an g)(a5:dU b):Calls prog 14 #[.agg #[ah,an]] w λe L=>e=.returned (.tuple #[.string (pq b g),.int .i64 (bP b g)])/\Below w w L:=by
 have P:=lp_ ad;have aP:=lr_ ae;have ap:=hid_ (λc i=>n8 c ah an b g (bR.a i ad) (ck.a i ae) a5);obtain⟨J,K,rfl,_⟩:=ad;obtain⟨al,am,rfl,_⟩:=ae;obtain⟨r,hW1⟩:=ex_ (w.alloc (.cells #[.slice J b K,.slice al g am] 30));have Z:Below w w r:=RT;have ax:r.cell? w=some (.slice J b K):=RU;have ay:r.cell? ⟨w,1,none⟩=some (.slice al g am):=RU;have aC:w.heap.size<r.heap.size:=RW;have O:=hid_ λc (i:Below r r c)=>an_ ((bF i aC).trans ax) ((bF i aC).trans ay);go_enter func14,ntmps14;go_wp2_with fail;clear hW1 ax ay;refine mo_ (ap r Z) λbp aB=>?_;have M:=bK aB;have N:=bK Z;clear aB Z ap;by_cases z:bP b g=0
 .have o:=bK (iz z);have W:Hid (pq b g=ko b g):=by show _=_;unfold pq;rw[if_pos z]
  obtain⟨F,G⟩:=O bp M.out;have bD:=o.out.preds;have bJ:=o.out.rules;have aO:=bK z;rw[z];clear z;go_wp2_with fail;clear F G;go_loopw [5,18] (λag A wr=>∃(f:Nat) (k:ByteArray),f<=b.length/\A=.int .i64 f/\ag=.string k/\k.size<=f*30/\Hid (bG k=(b.take f).flatMap fk/\Below r r wr)) (λ_ A _=>b.length-(intOf A).toNat)
  case atStart=>exact⟨0,_,Nat.zero_le _,rfl,rfl,QY,rfl,M.out⟩
  clear M;obtain⟨f,k,a1,rfl,rfl,az,j⟩:=hrel;have t:=bt_ N.out j.out.2;by_cases y:f<b.length
  .obtain⟨bd,bf,be,hv,bB,bc,aD,aE⟩:=cN (P wr t) y;obtain⟨rfl,rfl⟩:J=some ⟨bd,bf,none⟩/\K=be:=RX;have a3:(f:Int)<(b.length:Int):=Q0;have a2:(0:Int)<=(f:Int):=Q0;have s:=getElem_mem y;have bE:=o.out.name _ s;have a6:=o.out.arity _ s;have a7:=o.out.kind _ s;have V:=hid_ (O5 y);obtain⟨l,ab⟩:∃af:Nat,b[f].arity=(af:Int):=⟨b[f].arity.toNat,Q0⟩;obtain⟨m,ac⟩:∃af:Nat,b[f].kind=(af:Int):=⟨b[f].kind.toNat,Q0⟩;have bu:l<=2:=Q0;have bA:m<=3:=Q0;have aH:=bK ab;have aM:=bK ac;rw[ab] at aD;rw[ac] at aE;clear hv s a6 a7 ab ac;generalize b[f]=p at*;obtain⟨v,aa⟩:∃v:ByteArray,b_ l++⟨#[32]⟩++b_ m=v:=⟨_,rfl⟩;have aq:=bK aa
   have bt:v.size<=5:=by
    rw[<-aa,size_append,size_append];have br:=gF l;have bs:=gF m;have e1:(⟨#[32]⟩:ByteArray).size=1:=rfl;omega
   clear aa;obtain⟨q,hNB⟩:=ex_ wr.heap.size;have a8:¬9223372036854775807<5+p.name.size:=Q0;have a9:¬9223372036854775807<5+p.name.size+1:=Q0;have ba:¬9223372036854775807<5+p.name.size+1+v.size:=Q0;have bb:¬9223372036854775807<5+p.name.size+1+v.size+1:=Q0;have bM:¬9223372036854775807<k.size+(5+p.name.size+1+v.size+1):=Q0;go_wp2_with fail;have au:(wr.alloc (.cells #[.string p.name,l,m] 51)).cell? q=some (.string p.name):=Uj;have av:(wr.alloc (.cells #[.string p.name,l,m] 51)).cell? ⟨q,1,none⟩=some (.int .i64 (l:Int)):=Uj;have aw:(wr.alloc (.cells #[.string p.name,l,m] 51)).cell? ⟨q,2,none⟩=some (.int .i64 (m:Int)):=Uj;have U:Hid (q<(wr.alloc (.cells #[.string p.name,l,m] 51)).heap.size):=by rw[<-hNB];simp[Hid]
   have ao:Hid (Below wr wr (wr.alloc (.cells #[.string p.name,l,m] 51))):=bH _ _;generalize wr.alloc (.cells #[.string p.name,l,m] 51)=h at*;clear bc aD aE hNB;have HKC:=hid_ λc (i:Below h h c)=>an_ ((bF i U.out).trans au) (an_ ((bF i U.out).trans av) ((bF i U.out).trans aw));have aN:Hid (Calls prog 34 #[.string ⟨#[32]⟩,.slice (some ⟨h,0,none⟩) 2 2] (h.drew.alloc (.cells #[l,m] 3)) λe L=>e=.returned (.string v)/\Below (h.drew.alloc (.cells #[l,m] 3)).heap.size (h.drew.alloc (.cells #[l,m] 3)) L):=by rw[<-aq.out];exact EQ _ _ l m ⟨#[32]⟩ (vD h.drew l m) Q0 Q0 QY
   refine wp_region_noPanic ?_;refine wp_region_held_drew (S:=(λc:World=>Below h h c)) QX ((Below.refl _ _).drew) (λx=>?_);refine tk_ 0 ?_ rfl ?_ ?_;rotate_left
   .exact YM
   simp only[Act.put];refine tk_ 1 ?_ rfl ?_ ?_;rotate_left
   .exact YM
   simp only[Act.put];refine tk_ 2 ?_ rfl ?_ ?_;rotate_left
   .exact YM
   simp only[Act.put];refine tk_ 3 ?_ rfl ?_ ?_;rotate_left
   .exact YM
   simp only[Act.put];refine tk_ 4 ?_ rfl ?_ ?_;rotate_left
   .exact YM
   simp only[Act.put];refine tk_ 5 ?_ rfl ?_ ?_;rotate_left
   .exact YM
   simp only[Act.put];refine tk_ 6 ?_ rfl ?_ ?_;rotate_left
   .exact YM
   simp only[Act.put];refine tk_ 7 ?_ rfl ?_ ?_;rotate_left
   .exact YM
   simp only[Act.put];refine tk_ 8 ?_ rfl ?_ ?_;rotate_left
   .exact YM
   simp only[Act.put];refine rd_ 9 rfl λX H=>?_;go_simp;refine H.out _ _ (x.alloc x.size _) (λx=>?_);clear H X;try simp only[sq_]
   refine rd_ 10 rfl λX H=>?_;go_simp;refine mo_ aN.out λbQ I=>?_;refine H.out _ _ (x.trans (I.mono x.size)) (λx=>?_);clear H X I;try simp only[sq_]
   refine tk_ 11 ?_ rfl ?_ ?_;rotate_left
   .exact YM
   simp only[Act.put];refine tk_ 12 ?_ rfl ?_ ?_;rotate_left
   .exact YM
   simp only[Act.put];refine tk_ 13 ?_ rfl ?_ ?_;rotate_left
   .exact YM
   simp only[Act.put];refine tk_ 14 ?_ rfl ?_ ?_;rotate_left
   .exact YM
   simp only[Act.put];refine wpAnyH_done QX ?_ _;refine NoPanic.normal ?_;clear au av aw;go_wp2_with fail;go_roundw
   case rel=>
    refine⟨f+1,_,Q0,Rv,rfl,?_,?_,j.out.2.trans ((ao.out.trans (x.mono ao.out.size)).mono j.out.2.size)⟩
    .exact ZV
    rw[V.out,<-j.out.1,<-aq.out];simp only[d_,fk];have e1:bG (⟨#[112,114,101,100,32]⟩:ByteArray)=[112,114,101,100,32]:=rfl;have e2:bG (⟨#[32]⟩:ByteArray)=[32]:=rfl;have e3:bG (⟨#[10]⟩:ByteArray)=[10]:=rfl;rw[e1,e2,e3,aH.out,aM.out];simp
   exact S6
  obtain rfl:f=b.length:=Q0;have ar:Hid (bG k=b.flatMap fk):=by have:=j.out.1;rwa[take_length] at this
  obtain⟨F,G⟩:=O wr j.out.2;have aY:k.size<=150:=Q0;clear az;go_wp2_with fail;clear F G;go_loopw [5,40] (λag A wr=>∃(f:Nat) (k:ByteArray),f<=g.length/\A=.int .i64 f/\ag=.string k/\k.size<=150+f*150/\Hid (bG k=b.flatMap fk++(g.take f).flatMap (eT b)/\Below r r wr)) (λ_ A _=>g.length-(intOf A).toNat)
  case atStart=>exact⟨0,k,Nat.zero_le _,rfl,rfl,Q0,by rw[ar.out];simp,j.out.2⟩
  clear ar aY j;clear t;obtain⟨f,k,a1,rfl,rfl,az,j⟩:=hrel;have t:=bt_ N.out j.out.2;by_cases y:f<g.length
  .obtain⟨bm,bo,bn,hv,bI,bh,⟨bz,bi,aj⟩,bj,bk,bw,bl,ak⟩:=cN (aP wr t) y;obtain⟨rfl,rfl⟩:al=some ⟨bm,bo,none⟩/\am=bn:=RX;have a3:(f:Int)<(g.length:Int):=Q0;have a2:(0:Int)<=(f:Int):=Q0;have s:=getElem_mem y;have T:=o.out.head _ s;have aF:=o.out.src _ s;have aG:=o.out.n _ s;have bg:=o.out.few _ s;have ai:=o.out.body _ s;have V:Hid ((g.take (f+1)).flatMap (eT b)=(g.take f).flatMap (eT b)++eT b g[f]):=PM y;have bN:=qt o.out.name T.few;have bO:=Qc b g[f]
   have bL:(nE b g[f].body).size<=90:=by
    unfold nE;rw[du];have:=D6 o.out.name ai 0;omega
   obtain⟨D,E,a0,bx,_⟩:=id aj;obtain⟨B,C,aZ,bv,_⟩:=id ak;subst a0 aZ;clear hv s;generalize g[f]=d at*;obtain⟨q,hNB⟩:=ex_ wr.heap.size;have aI:=hid_ (λc i=>yQ c _ _ b _ (P c (t.trans (i.mono t.size))) (cr.a i aj) o.out.name T);have aR:Hid (∀c,Below wr wr c->Calls prog 54 #[.slice J b K,.agg #[d.head.pred,.slice D d.head.args E,d.src,d.n,.slice B d.body C]] c λe L=>e=.returned (.string (lw b d))/\Below c c L):=λc i=>PX c _ _ _ b d (P c (t.trans (i.mono t.size))) T.there aF aG;have aK:=hid_ (λc i=>PV c _ _ b _ (P c (t.trans (i.mono t.size))) (dC.a i ak) o.out.name Q0 ai);clear T aF aG bg ai aj ak
   have aQ:Hid (eT b d=bG (dr b d.head)++bG (lw b d)++bG (nE b d.body)++[46,10]):=by
    show _=_;rw[lQ,lw,nE,de,de];rfl
   generalize dr b d.head=Q at*;generalize lw b d=R at*;generalize nE b d.body=Y at*;obtain⟨F,G⟩:=O wr j.out.2;have a8:¬9223372036854775807<Q.size+R.size:=Q0;have a9:¬9223372036854775807<Q.size+R.size+Y.size:=Q0;have ba:¬9223372036854775807<Q.size+R.size+Y.size+2:=Q0;have bb:¬9223372036854775807<k.size+(Q.size+R.size+Y.size+2):=Q0;go_wp2_with fail
   have u:Hid (∀c,Below (wr.alloc (.cells #[d.head.pred,.slice D d.head.args E,d.src,d.n,.slice B d.body C] 58)).heap.size (wr.alloc (.cells #[d.head.pred,.slice D d.head.args E,d.src,d.n,.slice B d.body C] 58)) c->c.cell? w=some (.slice J b K)/\c.cell? q=some (.int .i64 d.head.pred)/\c.cell? ⟨q,1,none⟩=some (.slice D d.head.args E)/\c.cell? ⟨q,2,none⟩=some (.int .i64 d.src)/\c.cell? ⟨q,3,none⟩=some (.int .i64 d.n)/\c.cell? ⟨q,4,none⟩=some (.slice B d.body C)/\Below wr wr c):=λc i=>by
    have aA:=cU (bH _ _) i;have a4:q<(wr.alloc (.cells #[d.head.pred,.slice D d.head.args E,d.src,d.n,.slice B d.body C] 58)).heap.size:=by rw[<-hNB];simp
    refine⟨(O c (j.out.2.trans (aA.mono j.out.2.size))).1,?_,?_,?_,?_,?_,aA⟩<;>(rw[bF i a4,<-hNB];simp[go_sem])
   generalize wr.alloc (.cells #[d.head.pred,.slice D d.head.args E,d.src,d.n,.slice B d.body C] 58)=h at*;have aS:=λ(c:Low h.heap.size h)=>(u _ c.low).1;have aT:=λ(c:Low h.heap.size h)=>(u _ c.low).2.1;have aU:=λ(c:Low h.heap.size h)=>(u _ c.low).2.2.1;have aV:=λ(c:Low h.heap.size h)=>(u _ c.low).2.2.2.1;have aW:=λ(c:Low h.heap.size h)=>(u _ c.low).2.2.2.2.1;have aX:=λ(c:Low h.heap.size h)=>(u _ c.low).2.2.2.2.2.1;clear bh bi bj bk bl F G hNB;refine dz h.heap.size QX QX ?_;repeat(go_big_quiet_step (first|(go_at_call 53;exact dy (aI _ (u _ (Low.low _)).2.2.2.2.2.2))|(go_at_call 54;exact dy (aR _ (u _ (Low.low _)).2.2.2.2.2.2))|(go_at_call 55;exact dy (aK _ (u _ (Low.low _)).2.2.2.2.2.2))))
   refine wpQuiet_nil ?_;rintro bq ⟨⟨_,I⟩,rfl⟩;clear aS aT aU aV aW aX;have aJ:=bK (u _ I).2.2.2.2.2.2;clear I;go_wp2_with fail;go_roundw
   case rel=>
    refine⟨f+1,_,Q0,Rv,rfl,?_,?_,j.out.2.trans (aJ.out.mono j.out.2.size)⟩
    .exact abd
    rw[V.out,aQ.out,<-append_assoc,<-j.out.1];simp only[d_];have e1:bG (⟨#[46,10]⟩:ByteArray)=[46,10]:=rfl;rw[e1]
   exact S6
  obtain rfl:f=g.length:=Q0
  have aL:Hid (ko b g=k):=by
   show _=_;apply kj;rw[uX,j.out.1,take_length];rfl
  go_wp2_with fail;go_ret2;exact⟨by rw[W.out,aL.out,aO.out];rfl,t⟩
 have W:Hid (pq b g=⟨#[]⟩):=by show _=_;unfold pq;rw[if_neg z]
 have bC:(bP b g != 0)=true:=by simp[z]
 go_wp2_with fail;go_ret2;exact⟨by rw[W.out];rfl,N.out.trans (M.out.mono N.out.size)⟩
def jx(ps:List Prd)(x:Fct):Atm:=⟨x.pred,([⟨false,x.a⟩,⟨false,x.b⟩]:List Tm).take (dN ps x.pred).toNat⟩
def dX(ps:List Prd)(x:Fct):ByteArray:=if bJ ps x.pred=0 then dr ps (jx ps x) else dr ps (jx ps x)++(⟨#[32,61,32]⟩++b_ x.val)
def jf(ps:List Prd)(f:List Fct):List UInt8:=f.flatMap λx=>bG (dX ps x)++[46,10]
theorem NJ{b:List Prd}{f:List Fct}{a:Nat}(hj:a<f.length):jf b (f.take (a+1))=jf b (f.take a)++(bG (dX b f[a])++[46,10]):=by
 unfold jf;exact aaq
structure aF (ps:List Prd) (x:Fct):Prop where
 there:∃e:Nat,x.pred=(e:Int)/\e<ps.length
 arity:0<=dN ps x.pred/\dN ps x.pred<=2
 a:0<=x.a/\x.a<=4
 b:0<=x.b/\x.b<=4
 val:bJ ps x.pred≠0->0<=x.val/\x.val<=15
theorem Oe{k b}(a:cp k b=0):0<=b/\b<=15:=by
 unfold cp at a;split at a
 .contradiction
 split at a
 .contradiction
 rename_i h1 h2;simp at h1 h2;unfold jq at h2;split at h2<;>omega
theorem Fl{a c}(d:cw a c=true)(m:∀i∈a,0<=i.arity/\i.arity<=2):aF a c:=by
 simp only[cw,Bool.and_eq_true] at d;obtain⟨j,f,g,n,o,k⟩:=d;obtain⟨h,b,e⟩:=fd.1 j;have l:dN a c.pred=a[h].arity:=by rw[e];simp[dN,b]
 simp only[bQ,Bool.and_eq_true,decide_eq_true_eq] at f g;exact⟨⟨h,e,b⟩,by rw[l];exact m _ (getElem_mem b),f,g,λ_=>Oe (by simpa using k)⟩
theorem yP{f d}(c:aF f d):aP f (jx f d):=by
 refine⟨c.there,λh g=>?_,?_⟩
 .have:=List.mem_of_mem_take g;simp only[List.mem_cons,List.not_mem_nil,or_false] at this;rcases this with rfl|rfl
  .exact⟨c.a.1,by have:=c.a.2;show d.a<=25;omega⟩
  exact⟨c.b.1,by have:=c.b.2;show d.b<=25;omega⟩
 show(List.take _ _).length<=2;rw[length_take];simp;omega
theorem Fq{b:World}{a:Nat}{c d:Int}{n:Nat}(f:b.cell? a=some (.bool false))(h:b.cell? ⟨a,1,none⟩=some (.int .i64 c))(j:b.cell? ⟨a,2,none⟩=some (.bool false))(k:b.cell? ⟨a,3,none⟩=some (.int .i64 d))(m:n<=2):cr b (.slice (some ⟨a,0,none⟩) n 2) (([⟨false,c⟩,⟨false,d⟩]:List Tm).take n):=by
 refine⟨some ⟨a,0,none⟩,2,by rw[length_take];simp;omega,by rw[length_take];simp;omega,.inr ⟨a,0,rfl,rU f,λi g hi=>?_⟩⟩;have l:=(List.getElem?_eq_some_iff.1 hi).1;rw[length_take] at l;rw[List.getElem?_take_of_lt Q0] at hi;match i,hi with
 |0,hi=>
  obtain rfl:(⟨false,c⟩:Tm)=g:=ST;exact⟨f,h⟩
 |1,hi=>
  obtain rfl:(⟨false,d⟩:Tm)=g:=ST;exact⟨j,k⟩
 |i+2,hi=>simp at hi
theorem UH(h:p:=by have:=h.arity;omega):p:=h
theorem UI(h:p:=by rw[<-hWA];simp[go_sem]):p:=h
theorem UJ(h:p:=by have:=HV.out;rw[hk] at this;exact this):p:=h
theorem UK(h:p:=by show _=_;rw[HFB.out,if_pos hkd]):p:=h
theorem Yz(h:p:=by (intro w hSw;have kk:=HKC w hSw;go_simp;try with_reducible rfl)):p:=h
theorem PW(w:World)(W d c)(A:bR w W d)(o:∀an∈d,an.name.size<=8)(h:aF d c):Calls prog 130 #[W,.agg #[c.pred,c.a,c.b,c.val]] w λe G=>e=.returned (.string (dX d c))/\Below w w G:=by
 have u:=lp_ A;have J:=bK (yP h);have I:=bK o;obtain⟨i,hk,z⟩:=h.there;obtain⟨k,x⟩:∃k:Nat,dN d c.pred=(k:Int):=⟨(dN d c.pred).toNat,UH⟩;have ac:k<=2:=UH;have X:Hid (jx d c=⟨c.pred,([⟨false,c.a⟩,⟨false,c.b⟩]:List Tm).take k⟩):=by show _=_;unfold jx;rw[x];rfl
 have Q:d[i].arity=(k:Int):=by rw[<-x,hk];simp[dN,z]
 have HV:=bK h.val;obtain⟨al,E,rfl,_⟩:=id A;rw[hk];obtain⟨f,hWA⟩:=ex_ ((w.alloc (.cells #[i,c.a,c.b,c.val] 93)).alloc (.cells #[.bool false,c.a,.bool false,c.b] 100));have l:Hid (Below w w f):=by rw[<-hWA];exact(bH _ _).alloc Q1 _
 have au:f.heap.size=w.heap.size+2:=by rw[<-hWA];simp
 have K:f.cell? w=some (.int .i64 (i:Int)):=UI;have L:f.cell? ⟨w,3,none⟩=some (.int .i64 c.val):=UI;have M:f.cell? ⟨w.heap.size+1,0,none⟩=some (.bool false):=UI;have N:f.cell? ⟨w.heap.size+1,1,none⟩=some (.int .i64 c.a):=UI;have O:f.cell? ⟨w.heap.size+1,2,none⟩=some (.bool false):=UI;have P:f.cell? ⟨w.heap.size+1,3,none⟩=some (.int .i64 c.b):=UI;obtain⟨D,F,am,U,ad,aj,C,ak⟩:=cN (u f l.out) z;obtain⟨rfl,rfl⟩:al=some ⟨D,F,none⟩/\E=am:=by simpa using U
 rw[Q] at C;have aq:(0:Int)<=(i:Int):=Q0;have ar:(i:Int)<(d.length:Int):=Q0;have ao:(0:Int)<=(k:Int):=Q0;have ap:(k:Int)<=2:=Q0;have HKC:=hid_ λg (n:Below f f g)=>an_ ((bF n Q0).trans K) (an_ ((bF n ad).trans C) ((bF n Q0).trans L))
 have Y:Hid (∀g,Below f f g->Calls prog 53 #[.slice (some ⟨D,F,none⟩) d E,.agg #[i,.slice (some ⟨w.heap.size+1,0,none⟩) k 2]] g λe G=>e=.returned (.string (dr d (jx d c)))/\Below g g G):=λg n=>by
  have t:∀B,g.cell? ⟨w.heap.size+1,B,none⟩=f.cell? ⟨w.heap.size+1,B,none⟩:=λB=>bF n Q0;have ae:=Fq ((t 0).trans M) ((t 1).trans N) ((t 2).trans O) ((t 3).trans P) ac;have V:=J.out;rw[X.out] at V⊢;have:=yQ g (.slice (some ⟨D,F,none⟩) d E) _ d ⟨c.pred,([⟨false,c.a⟩,⟨false,c.b⟩]:List Tm).take k⟩ (u g (l.out.trans (n.mono l.out.size))) ae I V;rw[<-hk];exact this
 have av:=qt I J.out.few;have H:=hid_ λg (n:Below f f g)=>yq g _ d i (u g (l.out.trans (n.mono l.out.size))) z;have HFB:Hid (dX d c=if bJ d (i:Int)=0 then dr d (jx d c) else dr d (jx d c)++(⟨#[32,61,32]⟩++b_ c.val)):=by show _=_;unfold dX;rw[hk]
 have aa:Hid (bJ d (i:Int)≠0->0<=c.val/\c.val<=15):=UJ;clear U Q x o A h aj ak hk M N O P L;generalize dr d (jx d c)=v at*;go_enter func130,ntmps130;go_wp2_with fail;clear hWA K C;refine wp_region_noPanic ?_;refine wp_region_held_drew (S:=(λc:World=>Below f f c)) QX ((Below.refl _ _).drew) (λj=>?_);refine tk_ 0 ?_ rfl ?_ ?_;rotate_left
 .exact Yz
 simp only[Act.put];refine tk_ 1 ?_ rfl ?_ ?_;rotate_left
 .exact Yz
 simp only[Act.put];refine tk_ 2 ?_ rfl ?_ ?_;rotate_left
 .exact Yz
 simp only[Act.put];refine tk_ 3 ?_ rfl ?_ ?_;rotate_left
 .exact Yz
 simp only[Act.put];refine tk_ 4 ?_ rfl ?_ ?_;rotate_left
 .exact Yz
 simp only[Act.put];refine tk_ 5 ?_ rfl ?_ ?_;rotate_left
 .exact Yz
 simp only[Act.put];refine tk_ 6 ?_ rfl ?_ ?_;rotate_left
 .exact Yz
 simp only[Act.put];refine tk_ 7 ?_ rfl ?_ ?_;rotate_left
 .exact Yz
 simp only[Act.put];refine tk_ 8 ?_ rfl ?_ ?_;rotate_left
 .exact Yz
 simp only[Act.put];refine tk_ 9 ?_ rfl ?_ ?_;rotate_left
 .exact Yz
 simp only[Act.put];refine tk_ 10 ?_ rfl ?_ ?_;rotate_left
 .exact Yz
 simp only[Act.put];refine tk_ 11 ?_ rfl ?_ ?_;rotate_left
 .exact Yz
 simp only[Act.put];refine rd_ 12 rfl λab R=>?_;go_simp;refine mo_ (Y _ j) λr T=>?_;refine R.out _ _ (j.trans (T.mono j.size)) (λj=>?_);clear R ab T;try simp only[sq_]
 refine tk_ 13 ?_ rfl ?_ ?_;rotate_left
 .exact Yz
 simp only[Act.put];refine wpAnyH_done QX ?_ _;refine NoPanic.normal ?_;obtain⟨az,aA,ai⟩:=HKC r j;by_cases hkd:bJ d (i:Int)=0
 .have q:(!decide (bJ d (i:Int)=0))=false:=Tz;have p:=H r j;rw[q] at p;have HE:Hid (dX d c=v):=UK;have s:=bK j;clear q hkd j;go_wp2_with(go_at_call 67;refine mq_ p ?_);go_ret;exact⟨RZ,l.out.trans (s.out.mono l.out.size)⟩
 have q:(!decide (bJ d (i:Int)=0))=true:=Tz;have p:=H r j;rw[q] at p;obtain⟨af,ag⟩:=aa hkd;obtain⟨m,o⟩:∃m:Nat,c.val=(m:Int):=⟨c.val.toNat,Q0⟩;have HE:Hid (dX d c=v++(⟨#[32,61,32]⟩++b_ m)):=by show _=_;rw[HFB.out,if_neg hkd,o]
 have s:=bK j;have ay:=gF m;have aw:¬9223372036854775807<3+(b_ m).size:=Q0;have ax:¬9223372036854775807<v.size+(3+(b_ m).size):=Q0;rw[o] at ai;have Z:=yF (r.alloc (.cells #[m] 3)) _ m ⟨#[]⟩ (sK r m) Q0 QY;clear q hkd j o af ag;go_wp2_with(first|(go_at_call 67;refine mo_ p λaB ah=>?_;obtain rfl:=ah.symm)|(go_at_call 34;refine mo_ Z λaC y=>?_;replace y:Hid _:=y));go_ret;exact⟨RZ,l.out.trans ((s.out.trans ((cU (bH _ _) y.out).mono s.out.size)).mono l.out.size)⟩
theorem vg{a b}(d:∀f∈a,f.name.size<=8)(c:aF a b):(dX a b).size<=20:=by
 have h:=qt d (yP c).few;have i:=gF b.val;unfold dX;have g:(⟨#[32,61,32]⟩:ByteArray).size=3:=rfl;split
 .omega
 rw[size_append,size_append];omega
def mT(ps:List Prd)(rs:List Rul)(f:List Fct):ByteArray:=if bS ps rs f=0 then bN (jf ps f) else⟨#[]⟩
theorem Nn(g:World)(u E z b c f)(s:bR g u b)(O:ck g E c)(B:bO g z f)(am:dU b):Calls prog 80 #[.agg #[u,E],z] g λe aq=>e=.returned (.tuple #[.string (mT b c f),.int .i64 (bS b c f)])/\Below g g aq:=by
 have aa:=lp_ s;have X:=lf_ B;have H:=hid_ (λj i=>n8 j u E b c (bR.a i s) (ck.a i O) am);have F:=hid_ (λj i=>nR j u z b f (bR.a i s) (bO.a i B));obtain⟨P,Q,rfl,_⟩:=s;obtain⟨R,S,rfl,_⟩:=O;obtain⟨ah,aj,rfl,_⟩:=B;obtain⟨h,hW1⟩:=ex_ (g.alloc (.cells #[.slice P b Q,.slice R c S] 30));have y:Below g g h:=RT;have K:h.cell? g=some (.slice P b Q):=RU;have ac:h.cell? ⟨g,1,none⟩=some (.slice R c S):=RU;have an:g.heap.size<h.heap.size:=RW;have G:=hid_ λj (i:Below h h j)=>(bF i an).trans K;go_enter func80,ntmps80;go_wp2_with fail;clear hW1 K ac;refine mo_ (H h y) λT L=>?_;have q:=bK L;have m:=bK y;clear L y H;by_cases p:bP b c=0
 .have x:=bK (iz p);have A:=G T q.out;have I:=bK p;rw[p];clear p;go_wp2_with fail;refine mo_ (F T (m.out.trans (q.out.mono m.out.size))) λaF M=>?_;have v:=hid_ (q.out.trans (M.mono q.out.size));clear M F A q;by_cases n:bW b f=0
  .have k:Hid (bS b c f=0/\mT b c f=bN (jf b f)):=by
    have l:bS b c f=0:=by unfold bS;rw[I.out,n];rfl
    refine⟨l,?_⟩;unfold mT;rw[if_pos l]
   have Y:=hid_ (λU ao=>Fl (kA n U ao) x.out.arity);have aw:=mB n;rw[n];clear n;go_wp2_with fail;go_loopw [8,25] (λap D wr=>∃(d:Nat) (r:ByteArray),d<=f.length/\D=.int .i64 d/\ap=.string r/\r.size<=d*30/\Hid (bG r=jf b (f.take d)/\Below h h wr)) (λ_ D _=>f.length-(intOf D).toNat)
   case atStart=>exact⟨0,_,Nat.zero_le _,rfl,rfl,QY,rfl,v.out⟩
   clear v;obtain⟨d,r,ax,rfl,rfl,ar,o⟩:=hrel;have t:=bt_ m.out o.out.2;by_cases C:d<f.length
   .obtain⟨ai,al,ak,hv,au,ad,ae,af,ag⟩:=cN (X wr t) C;obtain⟨rfl,rfl⟩:ah=some ⟨ai,al,none⟩/\aj=ak:=RX;have az:(d:Int)<(f.length:Int):=Q0;have ay:(0:Int)<=(d:Int):=Q0;have w:=bK (Y _ (getElem_mem C));have Z:Hid (jf b (f.take (d+1))=jf b (f.take d)++(bG (dX b f[d])++[46,10])):=NJ C;have A:=G wr o.out.2;have aC:=vg x.out.name w.out;have ab:=hid_ λj (i:Below wr wr j)=>PW j _ b _ (aa j (t.trans (i.mono t.size))) x.out.name w.out;clear hv w;generalize dX b f[d]=J at*;generalize f[d]=U at*;have aD:¬9223372036854775807<J.size+2:=Q0;have aE:¬9223372036854775807<r.size+(J.size+2):=Q0;have aB:g.heap.size<wr.heap.size:=by have:=o.out.2.size;omega
    go_wp2_with fail;refine mo_ (ab _ (bH _ _)) λaG N=>?_;have V:=bK (cU (bH _ _) N);clear N ad ae af ag A;go_wp2_with fail;go_roundw
    case rel=>
     refine⟨d+1,_,Q0,Rv,rfl,?_,?_,o.out.2.trans (V.out.mono o.out.2.size)⟩
     .exact abd
     rw[Z.out,<-o.out.1];simp only[d_];rfl
    exact S6
   obtain rfl:d=f.length:=Q0
   have W:Hid (mT b c f=r):=by
    show _=_;rw[k.out.2];have:=o.out.1;rw[take_length] at this;rw[<-this,gr]
   go_wp2_with fail;go_ret2;exact⟨by rw[W.out,k.out.1];rfl,t⟩
  have k:Hid (bS b c f=bW b f/\mT b c f=⟨#[]⟩):=by
   have l:bS b c f=bW b f:=by unfold bS;rw[I.out];simp
   refine⟨l,?_⟩;unfold mT;rw[l,if_neg n]
  have av:(bW b f != 0)=true:=by simp[n]
  go_wp2_with fail;go_ret2;exact⟨by rw[k.out.1,k.out.2];rfl,m.out.trans (v.out.mono m.out.size)⟩
 have k:Hid (bS b c f=bP b c/\mT b c f=⟨#[]⟩):=by
  have l:bS b c f=bP b c:=by unfold bS;simp[p]
  refine⟨l,?_⟩;unfold mT;rw[l,if_neg p]
 have aA:(bP b c != 0)=true:=by simp[p]
 go_wp2_with fail;go_ret2;exact⟨by rw[k.out.1,k.out.2];rfl,m.out.trans (q.out.mono m.out.size)⟩
theorem ae3(h:p:=by
 have HC:=HATX WA _ HBA d0 d1 d2 d3
 clear hWA d0 d1 d2 d3 hHeld
 go_wp2_with fail
 refine mo_ HC λw6 hb6=>?_
 have HB6:=hid_ (HBA.out.trans (hb6.mono HBA.out.size))
 clear hb6 e0 e1 HC
 obtain⟨k0,k1,k2⟩:=HKD w6 HB6.out
 by_cases hkd:bJ ps (k:Int)=0
 .have hkd':(bJ ps (k:Int) != 0)=false:=Tz
  have HE:Hid (dX ps x=TA):=UK
  generalize bJ ps (k:Int)=kd at*
  clear hkd
  go_wp2_with fail
  go_ret
  exact⟨RZ,HB1.out.trans (HB6.out.mono HB1.out.size)⟩
 have hkd':(bJ ps (k:Int) != 0)=true:=Tz
 obtain⟨hv0,hv1⟩:=HVK hkd
 have HE:Hid (dX ps x=TA++⟨#[32,61,32]⟩++b_ x.val):=by
  show _=_
  rw[HFB.out,if_neg hkd]
  apply kj
  simp only[d_,append_assoc]
 have hzd:=gF x.val
 have hz1:¬9223372036854775807<TA.size+3:=Q0
 have hz2:¬9223372036854775807<TA.size+3+(b_ x.val).size:=Q0
 have HD:=ph w6 x.val hv0 Q0
 generalize bJ ps (k:Int)=kd at*
 clear hkd
 go_wp2_with(go_at_call 41;refine mo_ HD λw8 hb=>?_;replace hb:Hid _:=hb)
 go_ret
 exact⟨RZ,HB1.out.trans ((HB6.out.trans (hb.out.mono HB6.out.size)).mono HB1.out.size)⟩):p:=h
theorem ZR(h:p:=by
 have hkd':(bJ ps (k:Int) != 0)=false:=Tz
 have HE:Hid (dX ps x=TA):=UK
 generalize bJ ps (k:Int)=kd at*
 clear hkd
 go_wp2_with fail
 go_ret
 exact⟨RZ,HB1.out.trans (HB6.out.mono HB1.out.size)⟩):p:=h
theorem abi(h:p:=by
 show _=_
 rw[HFB.out,if_neg hkd]
 apply kj
 simp only[d_,append_assoc]):p:=h
theorem Eh(w:World)(K ps x)(q:bR w K ps)(H:∀T∈ps,T.name.size<=8)(h:aF ps x):Calls prog 50 #[K,.agg #[x.pred,x.a,x.b,x.val]] w λe y=>e=.returned (.string (dX ps x))/\Below w w y:=by
 have B:=lp_ q;have C:=bK (yP h);have A:=bK H;obtain⟨k,hk,l⟩:=h.there;obtain⟨f,p⟩:∃f:Nat,dN ps x.pred=(f:Int):=⟨(dN ps x.pred).toNat,UH⟩;have N:f<=2:=UH;have M:Hid (jx ps x=⟨x.pred,([⟨false,x.a⟩,⟨false,x.b⟩]:List Tm).take f⟩):=by show _=_;unfold jx;rw[p];rfl
 have G:ps[k].arity=(f:Int):=by rw[<-p,hk];simp[dN,l]
 have O:Hid (bJ ps (k:Int)=ps[k].kind):=by show _=_;simp[bJ,l]
 have HV:=bK h.val;obtain⟨Q,u,rfl,_⟩:=id q;rw[hk];obtain⟨c,hW1⟩:=ex_ (w.alloc (.cells #[k,x.a,x.b,x.val] 93));have HB1:Hid (Below w w c):=RT;have Y:w.heap.size<c.heap.size:=RW;have o:c.cell? w=some (.int .i64 (k:Int)):=RU;have D:c.cell? ⟨w,1,none⟩=some (.int .i64 x.a):=RU;have E:c.cell? ⟨w,2,none⟩=some (.int .i64 x.b):=RU;have F:c.cell? ⟨w,3,none⟩=some (.int .i64 x.val):=RU;obtain⟨t,v,R,J,I,P,r,s⟩:=cN (B c HB1.out) l;obtain⟨rfl,rfl⟩:Q=some ⟨t,v,none⟩/\u=R:=by simpa using J
 rw[G] at r;rw[<-O.out] at s;have W:(0:Int)<=(k:Int):=Q0;have X:(k:Int)<(ps.length:Int):=Q0;have U:(0:Int)<=(f:Int):=Q0;have V:(f:Int)<=2:=Q0;have HKC:=hid_ λz (i:Below c c z)=>an_ ((bF i Q0).trans o) (an_ ((bF i Q0).trans D) (an_ ((bF i Q0).trans E) ((bF i I).trans r)));have HKD:=hid_ λz (i:Below c c z)=>an_ ((bF i Q0).trans o) (an_ ((bF i Q0).trans F) ((bF i I).trans s))
 have HATX:Hid (∀(WA:World) (j:Nat),Below c c WA->WA.cell? j=some (.bool false)->WA.cell? ⟨j,1,none⟩=some (.int .i64 x.a)->WA.cell? ⟨j,2,none⟩=some (.bool false)->WA.cell? ⟨j,3,none⟩=some (.int .i64 x.b)->Calls prog 92 #[.slice (some ⟨t,v,none⟩) ps u,.agg #[k,.slice (some ⟨j,0,none⟩) f 2]] WA λe y=>e=.returned (.string (dr ps (jx ps x)))/\Below WA WA y):=λWA j hb d0 d1 d2 d3=>by
  have m:=Fq d0 d1 d2 d3 N;have n:=C.out;rw[M.out] at n⊢;have:=qu WA (.slice (some ⟨t,v,none⟩) ps u) _ ps ⟨x.pred,([⟨false,x.a⟩,⟨false,x.b⟩]:List Tm).take f⟩ k (B WA (HB1.out.trans (hb.mono HB1.out.size))) m hk l (λL m=>⟨(n.terms L m).1,by have:=(n.terms L m).2;omega⟩) (oD A _) (by have:=n.few;omega);rw[<-hk];exact this
 have Z:=qt A C.out.few;have HFB:Hid (dX ps x=if bJ ps (k:Int)=0 then dr ps (jx ps x) else dr ps (jx ps x)++(⟨#[32,61,32]⟩++b_ x.val)):=by show _=_;unfold dX;rw[hk]
 have HVK:Hid (bJ ps (k:Int)≠0->0<=x.val/\x.val<=15):=UJ;clear J G p H q h P hk F s;generalize dr ps (jx ps x)=TA at*;go_enter func50,ntmps50;go_wp2_with fail;clear hW1 o D E r;refine wp_region_noPanic ?_;refine wp_region_held_drew (S:=(λx:World=>Below c c x)) QX ((Below.refl _ _).drew) (λhHeld=>?_);change wpAnyH _ _ _ _ _ _ #[false,false,false,false,false,false,false,false,false,false,false,false,false,false,false,false,false,false,false] _ _;refine tk_ 0 ?_ rfl ?_ ?_;rotate_left
 .exact Yz
 simp only[Act.put];change wpAnyH _ _ _ _ _ _ #[true,false,false,false,false,false,false,false,false,false,false,false,false,false,false,false,false,false,false] _ _;refine tk_ 1 ?_ rfl ?_ ?_;rotate_left
 .exact Yz
 simp only[Act.put];change wpAnyH _ _ _ _ _ _ #[true,true,false,false,false,false,false,false,false,false,false,false,false,false,false,false,false,false,false] _ _;refine tk_ 2 ?_ rfl ?_ ?_;rotate_left
 .exact Yz
 simp only[Act.put];change wpAnyH _ _ _ _ _ _ #[true,true,true,false,false,false,false,false,false,false,false,false,false,false,false,false,false,false,false] _ _;refine tk_ 3 ?_ rfl ?_ ?_;rotate_left
 .exact Yz
 simp only[Act.put];change wpAnyH _ _ _ _ _ _ #[true,true,true,true,false,false,false,false,false,false,false,false,false,false,false,false,false,false,false] _ _;refine tk_ 4 ?_ rfl ?_ ?_;rotate_left
 .exact Yz
 simp only[Act.put];change wpAnyH _ _ _ _ _ _ #[true,true,true,true,true,false,false,false,false,false,false,false,false,false,false,false,false,false,false] _ _;refine tk_ 5 ?_ rfl ?_ ?_;rotate_left
 .exact Yz
 simp only[Act.put];change wpAnyH _ _ _ _ _ _ #[true,true,true,true,true,true,false,false,false,false,false,false,false,false,false,false,false,false,false] _ _;refine tk_ 6 ?_ rfl ?_ ?_;rotate_left
 .exact Yz
 simp only[Act.put];change wpAnyH _ _ _ _ _ _ #[true,true,true,true,true,true,true,false,false,false,false,false,false,false,false,false,false,false,false] _ _;refine tk_ 7 ?_ rfl ?_ ?_;rotate_left
 .exact Yz
 simp only[Act.put];change wpAnyH _ _ _ _ _ _ #[true,true,true,true,true,true,true,true,false,false,false,false,false,false,false,false,false,false,false] _ _;refine tk_ 9 ?_ rfl ?_ ?_;rotate_left
 .exact Yz
 simp only[Act.put];change wpAnyH _ _ _ _ _ _ #[true,true,true,true,true,true,true,true,false,true,false,false,false,false,false,false,false,false,false] _ _;refine tk_ 10 ?_ rfl ?_ ?_;rotate_left
 .exact Yz
 simp only[Act.put];change wpAnyH _ _ _ _ _ _ #[true,true,true,true,true,true,true,true,false,true,true,false,false,false,false,false,false,false,false] _ _;refine tk_ 11 ?_ rfl ?_ ?_;rotate_left
 .exact Yz
 simp only[Act.put];change wpAnyH _ _ _ _ _ _ #[true,true,true,true,true,true,true,true,false,true,true,true,false,false,false,false,false,false,false] _ _;refine tk_ 12 ?_ rfl ?_ ?_;rotate_left
 .exact Yz
 simp only[Act.put];change wpAnyH _ _ _ _ _ _ #[true,true,true,true,true,true,true,true,false,true,true,true,true,false,false,false,false,false,false] _ _;refine tk_ 13 ?_ rfl ?_ ?_;rotate_left
 .exact Yz
 simp only[Act.put];change wpAnyH _ _ _ _ _ _ #[true,true,true,true,true,true,true,true,false,true,true,true,true,true,false,false,false,false,false] _ _;refine tk_ 14 ?_ rfl ?_ ?_;rotate_left
 .exact Yz
 simp only[Act.put];change wpAnyH _ _ _ _ _ _ #[true,true,true,true,true,true,true,true,false,true,true,true,true,true,true,false,false,false,false] _ _;refine wpAnyH_ready (rs:=[8,17]) QX Q1 ?_;refine AllReadyH.cons rfl (λg d=>?_) ?_
 .go_simp;refine d.out _ _ (hHeld.alloc hHeld.size _) (λhHeld=>?_);clear d g;change wpAnyH _ _ _ _ _ _ #[true,true,true,true,true,true,true,true,true,true,true,true,true,true,true,false,false,false,false] _ _;try simp only[sq_]
  refine tk_ 15 ?_ rfl ?_ ?_;rotate_left
  .exact Yz
  simp only[Act.put];change wpAnyH _ _ _ _ _ _ #[true,true,true,true,true,true,true,true,true,true,true,true,true,true,true,true,false,false,false] _ _;refine tk_ 16 ?_ rfl ?_ ?_;rotate_left
  .exact Yz
  simp only[Act.put];change wpAnyH _ _ _ _ _ _ #[true,true,true,true,true,true,true,true,true,true,true,true,true,true,true,true,true,false,false] _ _;refine rd_ 17 rfl λg d=>?_;go_simp;refine d.out _ _ (hHeld.alloc hHeld.size _) (λhHeld=>?_);clear d g;change wpAnyH _ _ _ _ _ _ #[true,true,true,true,true,true,true,true,true,true,true,true,true,true,true,true,true,true,false] _ _;try simp only[sq_]
  refine rd_ 18 rfl λg d=>?_;go_simp;refine d.out _ _ (((Below.refl _ _).alloc (Nat.le_refl _) _).alloc Q1 _).drew (λhHeld=>?_);clear d g;refine wpAnyH_done QX ?_ _;refine NoPanic.normal ?_;obtain⟨WA,hWA⟩:=ex_ (((c.alloc (.cells #[.bool false,x.a,.bool false,x.b] 100)).alloc (.cells #[k,.slice (some ⟨c,0,none⟩) f 2] 55)).drew);rw[hWA] at hHeld⊢;have HBA:=bK hHeld;have d0:WA.cell? c=some (.bool false):=UI;have d1:WA.cell? ⟨c,1,none⟩=some (.int .i64 x.a):=UI;have d2:WA.cell? ⟨c,2,none⟩=some (.bool false):=UI;have d3:WA.cell? ⟨c,3,none⟩=some (.int .i64 x.b):=UI;have e0:WA.cell? ⟨c.heap.size+1,0,none⟩=some (.int .i64 (k:Int)):=UI;have e1:WA.cell? ⟨c.heap.size+1,1,none⟩=some (.slice (some ⟨c,0,none⟩) f 2):=UI;exact ae3
 refine AllReadyH.cons rfl (λg d=>?_) AllReadyH.nil;go_simp;refine d.out _ _ (hHeld.alloc hHeld.size _) (λhHeld=>?_);clear d g;change wpAnyH _ _ _ _ _ _ #[true,true,true,true,true,true,true,true,false,true,true,true,true,true,true,false,false,true,false] _ _;try simp only[sq_]
 refine rd_ 8 rfl λg d=>?_;go_simp;refine d.out _ _ (hHeld.alloc hHeld.size _) (λhHeld=>?_);clear d g;change wpAnyH _ _ _ _ _ _ #[true,true,true,true,true,true,true,true,true,true,true,true,true,true,true,false,false,true,false] _ _;try simp only[sq_]
 refine tk_ 15 ?_ rfl ?_ ?_;rotate_left
 .exact Yz
 simp only[Act.put];change wpAnyH _ _ _ _ _ _ #[true,true,true,true,true,true,true,true,true,true,true,true,true,true,true,true,false,true,false] _ _;refine tk_ 16 ?_ rfl ?_ ?_;rotate_left
 .exact Yz
 simp only[Act.put];change wpAnyH _ _ _ _ _ _ #[true,true,true,true,true,true,true,true,true,true,true,true,true,true,true,true,true,true,false] _ _;refine rd_ 18 rfl λg d=>?_;go_simp;refine d.out _ _ (((Below.refl _ _).alloc (Nat.le_refl _) _).alloc Q1 _).drew (λhHeld=>?_);clear d g;refine wpAnyH_done QX ?_ _;refine NoPanic.normal ?_;obtain⟨WA,hWA⟩:=ex_ (((c.alloc (.cells #[k,.slice (some ⟨c.heap.size+1,0,none⟩) f 2] 55)).alloc (.cells #[.bool false,x.a,.bool false,x.b] 100)).drew);rw[hWA] at hHeld⊢;have HBA:=bK hHeld;have d0:WA.cell? ⟨c.heap.size+1,0,none⟩=some (.bool false):=UI;have d1:WA.cell? ⟨c.heap.size+1,1,none⟩=some (.int .i64 x.a):=UI;have d2:WA.cell? ⟨c.heap.size+1,2,none⟩=some (.bool false):=UI;have d3:WA.cell? ⟨c.heap.size+1,3,none⟩=some (.int .i64 x.b):=UI;have e0:WA.cell? c=some (.int .i64 (k:Int)):=UI;have e1:WA.cell? ⟨c,1,none⟩=some (.slice (some ⟨c.heap.size+1,0,none⟩) f 2):=UI;exact ae3
