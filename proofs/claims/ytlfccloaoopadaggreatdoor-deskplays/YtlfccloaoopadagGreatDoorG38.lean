import Derived.Lib.SliceRun
import Derived.Test.YtlfccloaoopadagGreatDoorG31
open Go.Proofs.Tryz
set_option maxRecDepth 100000
set_option maxHeartbeats 0
open Go.Builtin (clear_ zeroCells)
namespace Go.Proofs.YtlfccloaoopadagGreatDoor
open Go.ChangeShapes Go.WideShapes Go.ChangeAt Go.RowKit
variable{p:Prop}
theorem CQ(d:World)(B b h A)(P:∀v d,(callFunc h v).run prog d=.ok (.enter h v) d)(p:Fct->Bool)(f:bO d B b)(y:ic iB h A p b d):Calls prog 215 #[B,.func (.func h) #[] A] d λe N=>∃g:Int,e=.returned g/\((g= -1/\b.any p=false)\/∃k:Nat,∃T:k<b.length,g=(k:Int)/\p b[k]=true/\(b.take k).any p=false)/\Below d d N:=by
 obtain⟨W,X,rfl,U,f⟩:=f;have n:=hid_ f;have m:=hid_ y;clear f y;go_enter func215,ntmps215;go_wp2_with fail;go_loopw [8] (λg wr=>∃a:Nat,a<=b.length/\g=.int .i64 a/\(b.take a).any p=false/\Below d d wr) (λg _=>b.length-(intOf g).toNat)
 case atStart=>exact⟨0,Nat.zero_le _,rfl,rfl,Below.refl _ _⟩
 obtain⟨a,Q,rfl,hno,c⟩:=hrel;by_cases hlt:a<b.length
 .obtain⟨w,V,rfl,l,f⟩:=n.out.resolve_left Rt;have i:=m wr b[a] c (List.getElem_mem hlt);have j:Hid ((b.take (a+1)).any p=p b[a]):=RO;have D:=hid_ hno;have x:=f a b[a] Ru;have S:(a:Int)<(b.length:Int):=Q0;have R:(0:Int)<=(a:Int):=Q0;clear f hno m n;have E:=hid_ λw (H:p b[a]=w)=>H;generalize z:b[a]=I at x i j;obtain⟨L,J,K,M⟩:=I;obtain⟨r,s,t,u⟩:=x;replace r:=(bF c l).trans r;replace s:=(bF c l).trans s;replace t:=(bF c l).trans t;replace u:=(bF c l).trans u;simp only[iB] at i;dsimp only at r s t u;have F:=hid_ z;clear z E;cases q:p ⟨L,J,K,M⟩
  .rw[q] at i j;go_wp2_with(go_at_fn h;refine mo_ i λO o=>?_);go_roundw
   case rel=>exact⟨a+1,Q0,Rv,j.out,c.trans (o.mono c.size)⟩
   exact adT
  rw[q] at i;clear j;have G:Hid (p b[a]=true):=by show _=_;rw[F.out];exact q
  go_wp2_with(go_at_fn h;refine mo_ i λO o=>?_);go_ret;exact⟨(a:Int),rfl,.inr ⟨a,hlt,rfl,G.out,D.out⟩,c.trans (o.mono c.size)⟩
 have C:=hid_ (l8 hlt hno);clear hno m n;go_wp2_with fail;go_ret;exact⟨-1,rfl,.inl ⟨rfl,C.out⟩,c⟩
structure ay (x:World) (g:Nat) (ys:List Fct):Prop where
 lt:g<x.heap.size
 free:∀o,x.frozen? ⟨g,o,none⟩=false
 at_:∀k y,ys[k]? =some y->m7 x g (k*4) y
theorem ay.a{d g:World}{b i}(c:ay d b i)(f:Below d d g):ay g b i:=
 ⟨Nat.lt_of_lt_of_le c.lt f.size,λh=>(World.frozen?_of_block (a:=⟨b,h,none⟩) (f.block b c.lt)).trans (c.free h),λk l j=>m7.a d g b _ _ f c.lt (c.at_ k l j)⟩
theorem ay.d{c:World}{b a}(f:ay c b a){o}(l:o<a.length*4):(c.cell? ⟨b,o,none⟩).isSome=true:=by
 have k:o/4<a.length:=Q0;obtain⟨g,h,i,j⟩:=f.at_ (o/4) a[o/4] (List.getElem?_eq_getElem k);have:o=o/4*4\/o=o/4*4+1\/o=o/4*4+2\/o=o/4*4+3:=Q0;rcases this with e|e|e|e<;>rw[e]
 .rw[g];rfl
 .rw[h];rfl
 .rw[i];rfl
 rw[j];rfl
def o7(x:World)(g i:Nat)(y:Fct):World:=(((x.setCell ⟨g,i*4,none⟩ y.pred).setCell ⟨g,i*4+1,none⟩ y.a).setCell ⟨g,i*4+2,none⟩ y.b).setCell ⟨g,i*4+3,none⟩ y.val
theorem Lu{d:World}{a b n f}(c:n<=a):Below n d (o7 d a b f):=
 (((((Below.refl _ _).setCell (p:=⟨a,b*4,none⟩) c _).setCell (p:=⟨a,b*4+1,none⟩) c _).setCell (p:=⟨a,b*4+2,none⟩) c _).setCell (p:=⟨a,b*4+3,none⟩) c _)
theorem ay.e{h:World}{c i}(f:ay h c i){a}(l:a<i.length)(k):ay (o7 h c a k) c (i.set a k):=by
 obtain⟨r,s,t,u⟩:=f.at_ a i[a] (List.getElem?_eq_getElem l);refine⟨by unfold o7;rw[cF,cF,cF,cF];exact f.lt,λb=>by unfold o7;simp[f.free b],λg v d=>?_⟩;rw[List.getElem?_set] at d;by_cases e:a=g
 .subst e;rw[if_pos rfl,if_pos l] at d;cases d
  unfold o7;refine⟨?_,?_,?_,?_⟩
  .rw[cP Q0,cP Q0,cP Q0];exact fC r
  .rw[cP Q0,cP Q0];exact fC (by rw[cP Q0];exact s)
  .rw[cP Q0];exact fC (by rw[cP Q0,cP Q0];exact t)
  exact fC (by rw[cP Q0,cP Q0,cP Q0];exact u)
 rw[if_neg e] at d;obtain⟨m,n,o,p⟩:=f.at_ g v d
 have:∀b j,g*4<=b->b<g*4+4->h.cell? ⟨c,b,none⟩=some j->(o7 h c a k).cell? ⟨c,b,none⟩=some j:=λb j w x q=>by
  unfold o7;rw[cP Q0,cP Q0,cP Q0,cP Q0];exact q
 exact⟨this _ _ Q0 Q0 m,this _ _ Q0 Q0 n,this _ _ Q0 Q0 o,this _ _ Q0 Q0 p⟩
theorem xH{n b}(c:n<=b):∀(f:List Value) (o:Nat) (a:World),Below n a (a.setCells b o f)
 |[],_,_=>Below.refl _ _
 |v::d,o,a=>by
  rw[World.setCells]
  exact((Below.refl n a).setCell (p:=⟨b,o,none⟩) c v).trans (xH c d (o+1) _)
theorem ay.c{f:World}{a k}(h:ay f a k){b}(u:b<=k.length)(g):ay (f.setCells a (b*4) g) a (k.take b):=by
 refine⟨Nat.lt_of_lt_of_le h.lt (xH (Nat.zero_le _) g _ f).size,λd=>by rw[World.frozen?_setCells];exact h.free d,λl t i=>?_⟩
 have q:l<b:=by
  have:=(List.getElem?_eq_some_iff.1 i).1;simp at this;omega
 rw[List.getElem?_take_of_lt q] at i;obtain⟨m,n,o,p⟩:=h.at_ l t i
 have:∀d j,d<b*4->f.cell? ⟨a,d,none⟩=some j->(f.setCells a (b*4) g).cell? ⟨a,d,none⟩=some j:=λd j s r=>by
  rw[World.cell?_setCells_out a g (b*4) f ⟨a,d,none⟩ (λ_ _=>.inl s)];exact r
 exact⟨this _ _ Q0 m,this _ _ Q0 n,this _ _ Q0 o,this _ _ Q0 p⟩
structure Mid (p:Fct->Bool) (xs:List Fct) (i j:Nat) (ys:List Fct):Prop where
 len:ys.length=xs.length
 lt:i<j
 le:j<=xs.length
 low:ys.take i=(xs.take j).filter λy=> !p y
 high:∀k,j<=k->ys[k]? =xs[k]?
theorem Mid.d{p:Fct->Bool}{a k}(g:k<a.length)(c:p a[k]=true)(f:(a.take k).any p=false):Mid p a k (k+1) a:=by
 refine⟨rfl,Q0,Q0,?_,λ_ _=>rfl⟩;rw[List.take_succ_eq_append_getElem g,List.filter_append]
 have e:(a.take k).filter (λb=> !p b)=a.take k:=List.filter_eq_self.2 λb h=>by
  have:=List.any_eq_false.1 f b h;simpa using this
 rw[e];simp[c]
theorem Mid.c{p:Fct->Bool}{d g f b}(a:Mid p d f b g)(h:b<d.length)(i:p d[b]=true):Mid p d f (b+1) g:=by
 refine⟨a.len,by have:=a.lt;omega,Q0,?_,λj k=>a.high j Q0⟩;rw[List.take_succ_eq_append_getElem h,List.filter_append,a.low];simp[i]
theorem Mid.b{p:Fct->Bool}{d g f c}(a:Mid p d f c g)(h:c<d.length)(i:p d[c]=false):Mid p d (f+1) (c+1) (g.set f d[c]):=by
 have k:=a.lt;have m:=a.len;refine⟨by rw[List.length_set];exact a.len,Q0,Q0,?_,λj l=>?_⟩
 .rw[List.take_succ_eq_append_getElem h,List.filter_append,<-a.low,List.take_succ_eq_append_getElem (by rw[List.length_set];omega),List.take_set_of_le (Nat.le_refl _)];simp[i]
 rw[List.getElem?_set,if_neg Q0];exact a.high j Q0
theorem Mid.a{p:Fct->Bool}{b d c}(f:Mid p b c b d):d.take c=b.filter λg=> !p g:=by
 rw[f.low,List.take_length]
theorem LK(n):∀c∈(zeroCells (Value.agg #[.int .i64 0,.int .i64 0,.int .i64 0,.int .i64 0]).cells n).toList,c.oneCell'=true:=by
 intro c a;have e:(Value.agg #[.int .i64 0,.int .i64 0,.int .i64 0,.int .i64 0]).cells=#[.int .i64 0,.int .i64 0,.int .i64 0,.int .i64 0]:=by rfl
 rw[e] at a;simp only[zeroCells,Array.toList_map,List.mem_map] at a;obtain⟨b,_,rfl⟩:=a;have:b%4<4:=Nat.mod_lt _ Q0;show(#[Value.int .i64 0,.int .i64 0,.int .i64 0,.int .i64 0][b%4]!).oneCell'=true;generalize b%4=d at this;match d,this with
 |0,_=>rfl
 |1,_=>rfl
 |2,_=>rfl
 |3,_=>rfl
theorem LJ(n):(zeroCells (Value.agg #[.int .i64 0,.int .i64 0,.int .i64 0,.int .i64 0]).cells n).toList.length=n*4:=by
 have e:(Value.agg #[.int .i64 0,.int .i64 0,.int .i64 0,.int .i64 0]).cells=#[.int .i64 0,.int .i64 0,.int .i64 0,.int .i64 0]:=by rfl
 rw[e];simp[zeroCells]
theorem Lw{c:World}{b a}(g:ay c b a){i}(o:i<a.length)(j n):(clear_ #[65] n #[.slice (some ⟨b,i*4,none⟩) (a.length-i) j]).run prog c=.ok (.tuple #[]) (c.setCells b (i*4) (zeroCells (Value.agg #[.int .i64 0,.int .i64 0,.int .i64 0,.int .i64 0]).cells (a.length-i)).toList):=by
 have f:=run_storeCells_cells (P:=prog) b (i*4) (zeroCells (Value.agg #[.int .i64 0,.int .i64 0,.int .i64 0,.int .i64 0]).cells (a.length-i)).toList 0 c (λm k=>by rw[LJ] at k;exact g.d Q0) (λm _=>g.free _) (LK _);simp only[Nat.add_zero] at f;obtain⟨h,l⟩:∃h,a.length-i=h+1:=⟨a.length-i-1,Q0⟩;rw[l] at f⊢;simp[clear_,run_underlying underlying65,f]
theorem ay.b{g:World}{c d a}(f:ay g c a)(k:a.length<=500):bO g (.slice (some ⟨c,0,none⟩) a d) a:=
 ⟨_,d,rfl,Q0,.inr ⟨c,0,rfl,f.lt,λi j h=>by rw[Nat.zero_add];exact f.at_ i j h⟩⟩
theorem KK(k m:World)(l D f q F)(aw:∀X m,(callFunc q X).run prog m=.ok (.enter q X) m)(p:Fct->Bool)(S:Below k k m)(aa:k.heap.size<=l)(R:ay m l f)(aL:f.length<=D)(aA:f.length<=500)(Q:∀(v:World) (h:Fct),Below k k v->h∈f->Calls prog q (#[iB h]++F) v λe u=>e=.returned (.bool (p h))/\Below v v u):Calls prog 173 #[.slice (some ⟨l,0,none⟩) f D,.func (.func q) #[] F] m λe u=>e=.returned (.slice (some ⟨l,0,none⟩) (f.filter λo=> !p o).length D)/\ay u l (f.filter λo=> !p o)/\Below k k u:=by
 have ao:Hid (Calls prog 215 #[.slice (some ⟨l,0,none⟩) f D,.func (.func q) #[] F] m λe u=>∃g:Int,e=.returned g/\((g= -1/\f.any p=false)\/∃r:Nat,∃ac:r<f.length,g=(r:Int)/\p f[r]=true/\(f.take r).any p=false)/\Below m m u):=CQ m _ f q F aw p (R.b aA) (λv h w t=>Q v h (S.trans (w.mono S.size)) t);have aq:=hid_ Q;have au:=hid_ R;clear Q R;go_enter func173,ntmps173;go_wp2_with fail;refine ao.out.mono ?_;rintro e aG ⟨aT,rfl,az,Z⟩;have ag:=bt_ S Z;have V:=hid_ (au.out.a Z);rcases az with⟨rfl,ae⟩|⟨r,ac,rfl,af,ad⟩
 .have am:Hid (f.filter (λo=> !p o)=f):=List.filter_eq_self.2 λo aC=>by
   have:=List.any_eq_false.1 ae o aC;simpa using this
  clear ae;go_wp2_with fail;go_ret;rw[am.out];exact⟨rfl,V.out,ag⟩
 have ap:=hid_ (Mid.d ac af ad);have aQ:((r:Int)== -1)=false:=beq_eq_false_iff_ne.2 Q0;clear af ad;go_wp2_with fail;go_loopw [5,6,7] (λaD T _ wr=>∃(g j:Nat) (s:List Fct),aD=.int .i64 g/\T=.int .i64 j/\Hid (Mid p f g j s/\ay wr l s/\Below k k wr)) (λ_ T _ _=>f.length-(intOf T).toNat)
 case atStart=>exact⟨r,r+1,f,rfl,Rv,ap.out,V.out,ag⟩
 obtain⟨g,j,s,rfl,rfl,i⟩:=hrel;have aM:=i.out.1.lt;have aR:=i.out.1.le;have aB:=i.out.1.len;by_cases E:j<f.length
 .have ab:g<s.length:=Q0;obtain⟨ah,ai,aj,ak⟩:=i.out.2.1.at_ j f[j] (by rw[i.out.1.high j (Nat.le_refl _)];exact List.getElem?_eq_getElem E);have ar:=hid_ (List.getElem_mem E);have J:=hid_ (λw=>i.out.1.c E w);have I:=hid_ (λw=>i.out.1.b E w);have aP:(j:Int)<(f.length:Int):=Q0;have aN:(g:Int)<(f.length:Int):=Q0;generalize f[j]=h at*;obtain⟨n,P⟩:=ex_ (wr.alloc (.cells #[h.pred,h.a,h.b,h.val] 93));have Y:Below wr wr n:=by rw[<-P];exact bH _ _
  have G:wr.heap.size<n.heap.size:=by rw[<-P];simp
  have A:=bt_ i.out.2.2 Y;obtain⟨L,M,N,O⟩:n.cell? wr=some (.int .i64 h.pred)/\n.cell? ⟨wr,1,none⟩=some (.int .i64 h.a)/\n.cell? ⟨wr,2,none⟩=some (.int .i64 h.b)/\n.cell? ⟨wr,3,none⟩=some (.int .i64 h.val):=by rw[<-P];simp[go_sem]
  have W:=hid_ λaF (z:Below n n aF)=>an_ ((i.out.2.1.a Y).a z) (an_ ((bF z G).trans L) (an_ ((bF z G).trans M) (an_ ((bF z G).trans N) ((bF z G).trans O))));have y:=aq n h A ar.out;simp only[iB] at y;cases t:p h
  .rw[t] at y;have H:=hid_ (I t);clear I J;go_wp2_with(go_at_fn q;refine mo_ y λK x=>?_;obtain⟨B,aH,aI,aJ,aK⟩:=W K x;obtain⟨s0,s1,s2',s3⟩:=B.at_ g _ (List.getElem?_eq_getElem ab);have aS:=B.free;clear ah ai aj ak L M N O);go_roundw
   case rel=>exact⟨g+1,j+1,s.set g h,Rv,Rv,H.out,B.e ab h,(A.trans (x.mono A.size)).trans (Lu aa)⟩
   exact adT
  rw[t] at y;have H:=hid_ (J t);clear I J;go_wp2_with(go_at_fn q;refine mo_ y λK x=>?_;have B:=(W K x).1;clear ah ai aj ak L M N O);go_roundw
  case rel=>exact⟨g,j+1,s,rfl,Rv,H.out,B,A.trans (x.mono A.size)⟩
  exact adT
 obtain rfl:j=f.length:=Q0;have U:=hid_ i.out.1.a;have ax:=λav aE=>Lw i.out.2.1 (i:=g) Q0 av aE;rw[aB] at ax;have al:Hid (∀C,ay (wr.setCells l (g*4) C) l (s.take g)/\Below k k (wr.setCells l (g*4) C)):=λC=>⟨i.out.2.1.c Q0 C,i.out.2.2.trans (xH aa C _ _)⟩;have an:Hid ((f.filter λo=> !p o).length=g):=by show _=_;rw[<-U.out,List.length_take];omega
 have aO:(g:Int)<=(f.length:Int):=Q0;go_wp2_with fail;go_ret;rw[an.out,<-U.out];exact⟨rfl,al _⟩
theorem KO(a b)(c:World):(Op.equalIn 10000 93 (iB a) (iB b)).run prog c=.ok (decide (a=b)) c:=by
 have t:=underlying3;have s:=isAgg3;have u:=sizeOf3;have i:prog.underlying 93=some (.struct (prog.fieldsOf 93)):=SI;have j:prog.stoodInHeld 93=false:=SI;rw[show(10000:Nat)=9999+1 from rfl,iB,iB,run_equalIn_agg c 9999 93 _ _ i j];simp only[Program.fieldsOf,underlying93];go_simp;obtain⟨k,m,o,q⟩:=a;obtain⟨l,n,p,r⟩:=b;by_cases d:k=l<;>by_cases f:m=n<;>by_cases g:o=p<;>by_cases h:q=r<;>simp[d,f,g,h]
theorem KN(c d:Fct)(f:World):(binOp .eql 93 (.agg #[c.pred,c.a,c.b,c.val]) (.agg #[d.pred,d.a,d.b,d.val])).run prog f=.ok (.bool (decide (c=d))) f:=by
 have:=KO c d f;rw[iB,iB] at this;simp[binOp,Op.equal,Op.maxDepth,this]
theorem K_(d:World)(J f c)(M:bO d J f):Calls prog 214 #[J,iB c] d λe ac=>∃l:Int,e=.returned l/\decide (0<=l)=f.any (λi=>decide (c=i))/\Below d d ac:=by
 have Q:=hid_ M;obtain⟨T,U,rfl,ag,W⟩:=M;clear W;obtain⟨h,hW1⟩:=ex_ (d.alloc (.cells #[c.pred,c.a,c.b,c.val] 93));have k:Below d d h:=by rw[<-hW1];exact bH _ _
 have m:d.heap.size<h.heap.size:=UA;obtain⟨o,p,q,r⟩:h.cell? d=some (.int .i64 c.pred)/\h.cell? ⟨d,1,none⟩=some (.int .i64 c.a)/\h.cell? ⟨d,2,none⟩=some (.int .i64 c.b)/\h.cell? ⟨d,3,none⟩=some (.int .i64 c.val):=UB;have P:=hid_ λae (u:Below h h ae)=>an_ ((bF u m).trans o) (an_ ((bF u m).trans p) (an_ ((bF u m).trans q) ((bF u m).trans r)));unfold iB;go_enter func214,ntmps214;go_wp2_with fail;clear o p q r;go_loopw [8] (λl wr=>∃g:Nat,g<=f.length/\l=.int .i64 g/\Hid ((f.take g).any (λi=>decide (c=i))=false)/\Below h h wr) (λl _=>f.length-(intOf l).toNat)
 case atStart=>exact⟨0,Nat.zero_le _,rfl,rfl,Below.refl _ _⟩
 obtain⟨g,ah,rfl,z,j⟩:=hrel;by_cases t:g<f.length
 .obtain⟨I,X,S,O,K,L⟩:=ly Q t;obtain⟨rfl,rfl⟩:T=some ⟨I,X,none⟩/\U=S:=by simpa using O
  obtain⟨Y,Z,aa,ab⟩:=m7.a d wr I _ _ (k.trans (j.mono k.size)) K L;have v:=Nat.lt_of_lt_of_le K (Nat.le_trans k.size j.size);have w:=Nat.lt_of_lt_of_le m j.size;obtain⟨o,p,q,r⟩:=P wr j;have ai:(g:Int)<(f.length:Int):=Q0;have x:Hid ((f.take (g+1)).any (λi=>decide (c=i))=decide (c=f[g])):=by show _=_;rw[j5 t,z.out,Bool.false_or]
  have n:Hid (decide (c=f[g])=true->f.any (λi=>decide (c=i))=true):=λV=>mZ t V;clear O L;generalize f[g]=i at*;have N:=KN c i;have af:prog.eqGuardType prog.depth 93=false:=SI;have A:=lo_ w o;have B:=lo_ w p;have C:=lo_ w q;have D:=lo_ w r;have E:=lo_ v Y;have F:=lo_ v Z;have G:=lo_ v aa;have H:=lo_ v ab;cases s:decide (c=i)
  .rw[s] at x;rw[s] at N;clear n;go_wp2_with fail;refine dz wr.heap.size SI SI ?_;repeat(go_big_quiet_step (fail))
   refine wpQuiet_nil ?_;rintro _ ⟨⟨ad,y⟩,rfl⟩;clear A B C D E F G H;go_wp2_with fail;go_roundw
   case rel=>exact⟨g+1,Q0,Rv,x,j.trans (y.mono j.size)⟩
   exact S6
  rw[s] at n;rw[s] at N;have R:=hid_ (n rfl);clear n x;go_wp2_with fail;refine dz wr.heap.size SI SI ?_;repeat(go_big_quiet_step (fail))
  refine wpQuiet_nil ?_;rintro _ ⟨⟨ad,y⟩,rfl⟩;clear A B C D E F G H;go_wp2_with fail;go_ret;exact⟨(g:Int),rfl,by rw[R.out];simp,k.trans ((j.trans (y.mono j.size)).mono k.size)⟩
 have HE:=hid_ (l8 t z.out);clear z;go_wp2_with fail;go_ret;exact⟨-1,rfl,RR,k.trans (j.mono k.size)⟩
theorem KI(d:World)(h f c)(o:bO d h f):Calls prog 172 #[h,iB c] d λe j=>e=.returned (.bool (f.any (λk=>decide (c=k))))/\Below d d j:=by
 have m:Hid (∀g,Below d d g->Calls prog 214 #[h,.agg #[c.pred,c.a,c.b,c.val]] g λe j=>∃i:Int,e=.returned i/\decide (0<=i)=f.any (λk=>decide (c=k))/\Below g g j):=λg p=>K_ g h f c (bO.a p o);unfold iB;go_enter func172,ntmps172;go_wp2_with fail;refine(m _ (bH _ _)).mono ?_;rintro e q ⟨i,rfl,l,n⟩;have HI:=hid_ l;clear l;go_wp2_with fail;go_ret;exact⟨RS,(bH _ _).trans (n.mono Q1)⟩
