import Derived.Test.YtlfccloaoopadagGreatDoorG6
import Derived.Test.YtlfccloaoopadagGreatDoorG8
import Derived.Test.YtlfccloaoopadagGreatDoorG9
open Go.Proofs.Tryz
set_option maxRecDepth 100000
set_option maxHeartbeats 0
open List (append_assoc getElem?_eq_getElem getElem?_map getElem_mem length_map map_set replicate take_length)
open Nat (lt_of_lt_of_le zero_le)
open Option.some (inj)
namespace Go.Proofs.YtlfccloaoopadagGreatDoor
open Go.ChangeShapes Go.WideShapes Go.ChangeAt Go.RowKit
variable{p:Prop}
theorem rz(s):(jM s).length=s.size:=by
 unfold jM;rw[length_map,Array.length_toList];rfl
theorem wX{s a}(b:a<s.size)(c:a<(jM s).length):(jM s)[a]=s[a].toNat:=by
 have e:(jM s)[a]? =some s[a].toNat:=by
  unfold jM;rw[getElem?_map,Array.getElem?_toList,Array.getElem?_eq_getElem b];rfl
 rw[getElem?_eq_getElem c] at e;exact inj e
theorem BG{a}:jN a=true↔97<=(a:Int)/\(a:Int)<=122:=by
 unfold jN;rw[Bool.and_eq_true,decide_eq_true_eq,decide_eq_true_eq];omega
theorem Je{a:Nat}(b:¬(97<=(a:Int)/\(a:Int)<=122)):jN a=false:=by
 cases c:jN a
 .rfl
 exact absurd (BG.1 c) b
theorem BE(b:World)(s)(n:s.size<=9223372036854775807):Calls prog 89 #[.string s] b λe l=>e=.returned (.bool (fY s))/\Below b b l:=by
 go_enter func89,ntmps89;go_wp2_with fail;go_loopw [3] (λi wr=>∃a:Nat,a<=s.size/\i=.int .i64 a/\((jM s).take a).all jN=true/\Below b b wr) (λi _=>s.size-(intOf i).toNat)
 case atStart=>exact⟨0,zero_le _,rfl,rfl,Below.refl _ _⟩
 obtain⟨a,m,rfl,c,h⟩:=hrel;by_cases d:a<s.size
 .have j:a<(jM s).length:=by rw[rz];exact d
  have k:Hid (jN s[a].toNat=true->((jM s).take (a+1)).all jN=true):=λg=>by rw[mz j,c,wX d,g];rfl
  have f:Hid (jN s[a].toNat=false->fY s=false):=λg=>by rw[fY,qN j (by rw[wX d];exact g)];rfl
  clear c;go_wp2_with fail
  case roundEnd=>
   rename_i h2;refine⟨⟨a+1,Q0,Rv,k (BG.2 h2),h⟩,?_⟩;exact adT
  all_goals
   go_ret;exact⟨by rw[f (Je Q0)];rfl,h⟩
 have f:Hid (fY s=bQ (s.size:Int) 1 8):=by
  have:(jM s).all jN=true:=nQ (by rw[rz];exact d) c;show _=_;rw[fY,this,Bool.true_and]
 clear c;obtain rfl:a=s.size:=Q0;go_wp2_with(first|(go_at_call 87;refine mq_ (et _ _ _ _) ?_));go_ret;exact⟨by rw[f.out];rfl,h⟩
def tZ(w:World)(b o:Nat)(x:Nat):Prop:=w.cell? ⟨b,o,none⟩=some (.int .i64 (x:Int))
abbrev dD:World->Value->List Nat->Prop:=jm 1 tZ
theorem tZ.a:nT tZ:=λ_ _ _ _ _ c d b=>(bF c d).trans b
theorem dD.a{b d:World}{c f}(h:Below b b d)(g:dD b c f):dD d c f:=jm.a tZ.a h g
theorem cN{m:Type}{k}{i:World->Nat->Nat->m->Prop}{h:World}{l f}(n:jm k i h l f){b}(j:b<f.length):∃a c d,l=.slice (some ⟨a,c,none⟩) f d/\a<h.heap.size/\i h a (c+b*k) f[b]:=by
 obtain⟨p,d,rfl,q,g⟩:=n;rcases g with rfl|⟨a,c,rfl,o,g⟩
 .simp at j
 exact⟨a,c,d,rfl,o,g b f[b] (by simp[j])⟩
theorem li_{w:World}{v l}(h:dD w v l):Go.RowKit.Hid (∀x,Below w.heap.size w x→dD x v l):=fun _ k=>dD.a k h
def dq(w:World)(B:Nat)(vs:List Value):Prop:=∀k v,vs[k]? =some v->w.cell? ⟨B,k,none⟩=some v/\w.frozen? ⟨B,k,none⟩=false
theorem dq.b{j:World}{f k d}(h:dq j f d)(hk:k<d.length)(i):dq (j.setCell ⟨f,k,none⟩ i) f (d.set k i):=by
 intro c l a;rw[gI];by_cases e:c=k
 .subst e;rw[List.getElem?_set_self hk] at a;cases a
  have:=h c d[c] RA;exact⟨fC this.1,this.2⟩
 rw[List.getElem?_set_ne (λg=>e g.symm)] at a;rw[cP (λg=>e g.symm)];exact h c l a
theorem dq.c{f:World}{a b o d}(g:dq f a d)(i:b≠a)(j):dq (f.setCell ⟨b,o,none⟩ j) a d:=λk l h=>by
 rw[gI,cb i]
 exact g k l h
theorem dq.a{g h:World}{b n f}(i:dq g b f)(d:Below n g h)(c:b<n):dq h b f:=λk l j=>by
 rw[d.cell (p:=⟨b,k,none⟩) c,d.frozen (p:=⟨b,k,none⟩) c]
 exact i k l j
def fH(x:Nat):Value:=.int .i64 (x:Int)
theorem oX{b:World}{a l}(d:dq b a (l.map fH)){k}(c:k<l.length):b.cell? ⟨a,k,none⟩=some (.int .i64 (bX l k:Int))/\b.frozen? ⟨a,k,none⟩=false:=by
 refine d k _ ?_;rw[getElem?_map,getElem?_eq_getElem c,bX,List.getD_eq_getElem?_getD,getElem?_eq_getElem c];rfl
theorem w_{d:World}{a:Nat}{l:List Nat}(f:dq d a (l.map fH)){k:Nat}(hk:k<l.length)(c:Nat):dq (d.setCell ⟨a,k,none⟩ c) a ((l.set k c).map fH):=by
 have:=f.b (k:=k) Rq (fH c);rwa[<-map_set] at this
theorem wZ{a:World}{B cap:Nat}{l:List Nat}(b:dq a B (l.map fH))(f:l.length<=140737488355328)(c:B<a.heap.size):dD a (.slice (some ⟨B,0,none⟩) l cap) l:=
 ⟨_,cap,rfl,f,.inr ⟨B,0,rfl,c,λg h d=>by
  have:=(b g (fH h) (by rw[getElem?_map,d];rfl)).1
  rw[Nat.mul_one,Nat.zero_add]
  exact this⟩⟩
theorem aa2(h:p:=by
 obtain rfl|rfl|rfl|rfl|rfl|rfl:n=0\/n=1\/n=2\/n=3\/n=4\/n=5:=Q0
 all_goals kernel_rfl):p:=h
theorem xe{n:Nat}(b:n<=5)(a:World):(Instr.makeSlice 68 n n).run prog a=.ok (.slice (some ⟨a,0,none⟩) n n) (a.alloc (.cells (replicate n (.int .i64 0)).toArray 3)):=by
 exact aa2
theorem oY{w:World}{vs t}:dq (w.alloc (.cells vs.toArray t)) w vs:=by
 intro d f a;have b:=(List.getElem?_eq_some_iff.1 a).1;have c:vs[d]=f:=by rw[getElem?_eq_getElem b] at a;exact inj a
 constructor
 .simp[go_sem,b,c]
 simp[go_sem]
theorem B9{w:World}{n t}:dq (w.alloc (.cells (replicate n (.int .i64 0)).toArray t)) w ((replicate n 0).map fH):=by
 rw[List.map_replicate];exact oY
theorem By{b:List Rul}{a:Nat}(c:a<b.length):cI (b.take (a+1))=cI (b.take a)++b[a].body.map (iY b[a]):=by
 unfold cI;rw[List.take_succ_eq_append_getElem c,List.flatMap_append,List.flatMap_cons,List.flatMap_nil,List.append_nil]
theorem BH{a k}(b:k<a.body.length):(a.body.take (k+1)).map (iY a)=(a.body.take k).map (iY a)++[iY a a.body[k]]:=by
 rw[List.take_succ_eq_append_getElem b,List.map_append];rfl
theorem Bv{rs}(h:rs.length<=8)(c:∀a∈rs,a.body.length<=3):(cI rs).length<=24:=by
 have:∀rs:List Rul,(∀a∈rs,a.body.length<=3)->(cI rs).length<=rs.length*3:=by
  intro rs;induction rs with
  |nil=>intro _;simp[cI]
  |cons a rs ih=>
   intro b;have f:=ih λd hx=>b d Rl;have g:=b a Q1;have e:cI (a::rs)=a.body.map (iY a)++cI rs:=rfl;rw[e,List.length_append,length_map,List.length_cons];omega
 have:=this rs c;omega
theorem Ju{a d b i}(f:∀j∈d,aC a j)(c:aC a b):gS (cI d++(b.body.take i).map (iY b)) a.length:=by
 intro e he;rcases List.mem_append.1 he with he|he
 .exact lJ f e he
 obtain⟨h,g,rfl⟩:=List.mem_map.1 he;exact⟨c.head.1,(c.body h (List.mem_of_mem_take g)).1⟩
theorem BI{d l c n}(j:gS d n)(m:l.length=n)(f:c=hM d l){e}(k:e.h<n)(g:bX c e.h<bX c e.b+e.a):Hid (c.set e.h (bX c e.b+e.a)=hM (d++[e]) l)/\decide (c.set e.h (bX c e.b+e.a)=l)=false:=by
 have i:ir c e=c.set e.h (bX c e.b+e.a):=by rw[ir,if_pos g]
 rw[<-i];refine⟨?_,decide_eq_false (LZ j k m f g)⟩;show _=_;rw[C8,f]
theorem BJ{d l c}(f:c=hM d l){e}(g:¬bX c e.h<bX c e.b+e.a):Hid (c=hM (d++[e]) l):=by
 show _=_;rw[C8,<-f,ir,if_neg g]
theorem BY{b c d f}(g:∀a,bX b a<=c)(h:d<b.length)(i:f<=c+1)(a):bX (b.set d f) a<=c+1:=by
 rw[nA h];split
 .exact i
 have:=g a;omega
theorem Ja{d n c l m}{o:Option (List Nat)}(g:c<=n*n+1)(b:k_ d (n*n+2-c) l=o)(f:m=hM d l):(decide (m=l)=true->o=some m)/\(decide (m=l)=false->k_ d (n*n+2-(c+1)) m=o):=by
 rw[show n*n+2-c=(n*n+2-(c+1))+1 by omega,k_] at b;constructor
 .intro a;have a:=of_decide_eq_true a;rw[if_pos (by rw[<-f,a])] at b;rw[<-b,a]
 intro a;have a:=of_decide_eq_false a;rw[if_neg (by rw[<-f];exact a),<-f] at b;exact b
theorem Bl{n}(a:World)(o)(b:n<=a.heap.size):Below n a (a.alloc o):=(Below.refl _ _).alloc b o
theorem S1(h:p:=by rw[hbr.cell (p:=⟨w,1,none⟩) (by simp)];simp[go_sem]):p:=h
theorem S2(h:p:=by simpa using hv):p:=h
theorem S3(h:p:=by rw[<-hW0];exact bH _ _):p:=h
theorem S4(h:p:=by have:=hbm j;omega):p:=h
theorem S5(h:p:=by simpa using hlt2):p:=h
theorem S6(h:p:=by simp[intOf];omega):p:=h
theorem S7(h:p:=by rw[cF];exact hsz):p:=h
theorem S8(h:p:=by have hq9:=hbm eb;rw[hae] at hq9;omega):p:=h
theorem Z9(h:p:=by
 have P2:=P2 S5
 clear P1
 go_wp2_with fail
 refine⟨⟨q+1,m,Q0,Rv,?_,hml,rfl,λj=>S4,hrow,hsz,hbr,d0,d4⟩,S6⟩
 rw[HS'.out,<-append_assoc]
 exact P2.out):p:=h
theorem BZ(w:World)(aI aL b d)(aE:bR w aI b)(P:ck w aL d)(U:b.length<=5)(aV:d.length<=8)(aD:∀f∈d,aC b f):Calls prog 91 #[.agg #[aI,aL]] w λe aO=>(∃aN,e=.returned (.tuple #[aN,.bool (eX (cI d) b).isSome])/\∀l,eX (cI d) b.length=some l->dD aO aN l)/\Below w w aO:=by
 have be:=hid_ aE;have aR:=hid_ P;obtain⟨z,A,rfl,bv,a1⟩:=aE;obtain⟨x,u,rfl,bB,a3⟩:=P;clear a1 a3;have a0:=@xe _ U;have B:=hid_ aD;clear aD;go_enter func91,ntmps91;go_wp2_with fail;clear a0;have a4:b.length*b.length<=25:=Nat.mul_le_mul U U;have bD:(b.length:Int)*(b.length:Int)<=25:=by exact_mod_cast a4
 have bE:(0:Int)<=(b.length:Int)*(b.length:Int):=by exact_mod_cast zero_le (b.length*b.length)
 have bd:=hid_ (lJ B.out);have bj:=Bv aV λf P=>(B f P).few;have aS:Hid (k_ (cI d) (b.length*b.length+2) (replicate b 0)=eX (cI d) b):=rfl;have N:=hid_ λs (aU:Below (w.heap.size+1) (w.alloc (.cells #[.slice z b A,.slice x d u] 30)) s)=>(bH _ _).trans (aU.mono Q0);go_loopw [5] (λk wr=>∃(i:Nat) (l:List Nat),i<=b.length*b.length+2/\k=.int .i64 i/\l.length=b.length/\Hid (k_ (cI d) (b.length*b.length+2-i) l=eX (cI d) b)/\(∀g,bX l g<=i*24)/\ dq wr (w.heap.size+1) (l.map fH)/\w.heap.size+1<wr.heap.size/\Below (w.heap.size+1) (w.alloc (.cells #[.slice z b A,.slice x d u] 30)) wr) (λk _=>b.length*b.length+2-(intOf k).toNat)
 case atStart=>
  refine⟨0,replicate b 0,Q0,rfl,Q1,aS.out,λg=>by rw[rS];omega,?_,Q1,Bl _ _ Q1⟩;have:=B9 (w:=w.alloc (.cells #[.slice z b A,.slice x d u] 30)) (n:=b.length) (t:=3);rwa[World.size_alloc] at this
 obtain⟨i,l,bG,rfl,aA,aG,aX,hrow,hsz,hbr⟩:=hrel;have aT:wr.cell? w=some (.slice z b A):=by rw[hbr.cell (p:=⟨w,0,none⟩) Q1];simp[go_sem]
 have T:wr.cell? ⟨w,1,none⟩=some (.slice x d u):=S1;by_cases aa:i<=b.length*b.length+1
 .have aZ:(i:Int)<=(b.length:Int)*(b.length:Int)+1:=by exact_mod_cast aa
  go_wp2_with fail;have ap:=hid_ aA;go_loopw [6,7] (λaf k am=>∃(g:Nat) (m:List Nat),g<=d.length/\k=.int .i64 g/\Hid (m=hM (cI (d.take g)) l)/\m.length=b.length/\af=.bool (decide (m=l))/\(∀j,bX m j<=i*24+(cI (d.take g)).length)/\ dq am (w.heap.size+1) (m.map fH)/\w.heap.size+1<am.heap.size/\Below (w.heap.size+1) (w.alloc (.cells #[.slice z b A,.slice x d u] 30)) am) (λ_ k _=>d.length-(intOf k).toNat)
  case atStart=>exact⟨0,l,zero_le _,rfl,rfl,aA,Q1,λj=>by have:=aX j;simp[cI];omega,hrow,hsz,hbr⟩
  clear hrow hsz hbr aT T;obtain⟨g,m,br,rfl,t,hml,rfl,hbm,hrow,hsz,hbr⟩:=hrel;have T:wr.cell? ⟨w,1,none⟩=some (.slice x d u):=S1;by_cases Z:g<d.length
  .obtain⟨aJ,aK,ba,hv,y,X⟩:=cN aR Z;obtain⟨rfl,rfl⟩:x=some ⟨aJ,aK,none⟩/\u=ba:=S2;have r:=N _ hbr;have a2:=lt_of_lt_of_le y r.size;obtain⟨ag,⟨bI,ah,bc⟩,aj,ak,bf,al,aM⟩:=X;have aQ:=hid_ aM;obtain⟨L,M,rfl,bl,_⟩:=aM;obtain⟨aW,aY,rfl,_⟩:=bc;replace ag:=(bF r y).trans ag;replace ah:=(bF r y).trans ah;replace aj:=(bF r y).trans aj;replace ak:=(bF r y).trans ak;replace al:=(bF r y).trans al;have I:=hid_ (B _ (getElem_mem Z));have Q:=hid_ (By Z);have bs:(0:Int)<=(g:Int):=Q0;have bt:(g:Int)<(d.length:Int):=Q0;clear hv;generalize bA:d[g]=f at*;go_wp2_with fail;have aw:=I.out.head;obtain⟨h,Y⟩:∃h:Nat,f.head.pred=(h:Int):=⟨_,aw.2⟩;have az:h<b.length:=by have:=aw.1;rw[Y] at this;simpa using this
   have aP:Hid (∀s,iY f s=⟨h,s.atom.pred.toNat,s.neg⟩):=λs=>by rw[iY,Y];rfl
   have an:=hid_ I.out.few
   have bq:(cI (d.take g)).length<=24:=by
    have:=Q.out;refine Bv (rs:=d.take g) (by rw[List.length_take];omega) λs ad=>(B s (List.mem_of_mem_take ad)).few
   obtain⟨v,C⟩:=ex_ wr.heap.size;obtain⟨K,hW0⟩:=ex_ (wr.alloc (.cells #[f.head.pred,.slice aW f.head.args aY,f.src,f.n,.slice L f.body M] 58));have W:Below wr wr K:=S3;have d0:K.cell? v=some (.int .i64 (h:Int)):=by rw[<-hW0,<-C,<-Y];simp[go_sem]
   have d4:K.cell? ⟨v,4,none⟩=some (.slice L f.body M):=by rw[<-hW0,<-C];simp[go_sem]
   have bC:K.heap.size=v+1:=by rw[<-hW0,<-C];simp
   have ay:=hbr.trans (W.mono Q0);have aF:=hrow.a W hsz;have bk:w.heap.size+1<v:=Q0;rw[hW0,C];clear W hbr hrow hsz ag ah aj ak al a2 T r;clear hW0 C;go_loopw [6,9] (λaf k F=>∃(q:Nat) (E:List Nat),q<=f.body.length/\k=.int .i64 q/\Hid (E=hM (cI (d.take g)++(f.body.take q).map (iY f)) l)/\E.length=b.length/\af=.bool (decide (E=l))/\(∀j,bX E j<=i*24+(cI (d.take g)).length+q)/\ dq F (w.heap.size+1) (E.map fH)/\v<F.heap.size/\Below (w.heap.size+1) (w.alloc (.cells #[.slice z b A,.slice (some ⟨aJ,aK,none⟩) d u] 30)) F/\ F.cell? v=some (.int .i64 (h:Int))/\F.cell? ⟨v,4,none⟩=some (.slice L f.body M)) (λ_ k _=>f.body.length-(intOf k).toNat)
   case atStart=>exact⟨0,m,zero_le _,rfl,by rw[List.take_zero,List.map_nil,List.append_nil];exact t,hml,rfl,λj=>S4,aF,Q0,ay,d0,d4⟩
   clear hbm hml aF ay t d0 d4;obtain⟨q,m,bw,rfl,t,hml,rfl,hbm,hrow,hsz,hbr,d0,d4⟩:=hrel;by_cases ab:q<f.body.length
   .have r:=N _ hbr;obtain⟨a6,a8,a7,hv,aB,X⟩:=cN aQ ab;obtain⟨rfl,rfl⟩:L=some ⟨a6,a8,none⟩/\M=a7:=S2;obtain⟨aH,ae,_⟩:=X;replace aH:=(bF r aB).trans aH;replace ae:=(bF r aB).trans ae;have V:=I.out.body _ (getElem_mem ab);have J:=BH ab;rw[aP.out] at J;obtain⟨eb,O⟩:∃eb:Nat,f.body[q].atom.pred=(eb:Int):=⟨_,V.2⟩;have bp:eb<b.length:=by have:=V.1;rw[O] at this;simpa using this
    rw[O] at ae;rw[O,Int.toNat_natCast] at J;have HS':Hid _:=J;clear J hv V O;have bx:(0:Int)<=(q:Int):=Q0;have bz:(q:Int)<(f.body.length:Int):=Q0;have au:=oX hrow (k:=eb) Q0;have av:=oX hrow (k:=h) Q0;have bh:(eb:Int)<(b.length:Int):=Q0;have bi:(h:Int)<(b.length:Int):=Q0;have bm:bX m eb<=10000:=by have:=hbm eb;have:=an.out;omega
    have bn:bX m h<=10000:=by have:=hbm h;have:=an.out;omega
    obtain⟨au,_⟩:=au;obtain⟨av,bg⟩:=av;have aq:Hid (gS (cI (d.take g)++(f.body.take q).map (iY f)) b):=Ju (λs ad=>B s (List.mem_of_mem_take ad)) I.out;generalize bu:f.body[q].neg=a9 at*;generalize hae:bX m eb=o at*;generalize ax:bX m h=ar at*;cases a9
    .have ac:(⟨h,eb,false⟩:ai).a=0:=rfl;have P1:=BI aq ap t (e:=⟨h,eb,false⟩) az;have P2:=BJ t (e:=⟨h,eb,false⟩);rw[ac] at P1 P2;rw[hae,ax] at P1 P2;by_cases hlt2:ar<o
     .obtain⟨P1,S⟩:=P1 S5;have R:Hid _:=P1;clear P2 P1;go_wp2_with fail;refine⟨⟨q+1,m.set h (o),Q0,Rv,?_,by rw[List.length_set];exact hml,?_,?_,?_,S7,hbr.setCell (p:=⟨w.heap.size+1,h,none⟩) Q1 _,?_,?_⟩,S6⟩
      .rw[HS'.out,<-append_assoc];exact R.out
      .rw[show o=o+0 from rfl,S]
      .exact BY (c:=i*24+(cI (d.take g)).length+q) hbm Q0 S8
      .exact w_ hrow Q0 (o)
      .rw[cb Q0];exact d0
      rw[cb Q0];exact d4
     exact Z9
    have ac:(⟨h,eb,true⟩:ai).a=1:=rfl;have P1:=BI aq ap t (e:=⟨h,eb,true⟩) az;have P2:=BJ t (e:=⟨h,eb,true⟩);rw[ac] at P1 P2;rw[hae,ax] at P1 P2;by_cases hlt2:ar<o+1
    .obtain⟨P1,S⟩:=P1 S5;have R:Hid _:=P1;clear P2 P1;go_wp2_with fail;refine⟨⟨q+1,m.set h (o+1),Q0,Rv,?_,by rw[List.length_set];exact hml,?_,?_,?_,S7,hbr.setCell (p:=⟨w.heap.size+1,h,none⟩) Q1 _,?_,?_⟩,S6⟩
     .rw[HS'.out,<-append_assoc];exact R.out
     .rw[show o+1=o+1 from rfl,S]
     .exact BY (c:=i*24+(cI (d.take g)).length+q) hbm Q0 S8
     .exact w_ hrow Q0 (o+1)
     .rw[cb Q0];exact d0
     rw[cb Q0];exact d4
    exact Z9
   obtain rfl:q=f.body.length:=Q0;go_wp2_with fail;refine⟨⟨g+1,m,Q0,Rv,?_,hml,rfl,?_,hrow,Q0,hbr⟩,S6⟩
   .rw[Q.out];have:=t.out;rw[take_length] at this;exact this
   intro j;rw[Q.out,List.length_append,length_map];have:=hbm j;omega
  obtain rfl:g=d.length:=Q0;have G:=Ja aa aG (m:=m) (by have:=t.out;rwa[take_length] at this);rw[take_length] at hbm;generalize bo:decide (m=l)=bb at*;cases bb
  .have H:Hid _:=G.2 rfl;clear G;go_wp2_with fail;exact⟨⟨i+1,m,Q0,Rv,hml,H.out,λj=>S4,hrow,hsz,hbr⟩,S6⟩
  have H:=hid_ (G.1 rfl);clear G;go_wp2_with fail;go_ret2;refine⟨⟨_,by rw[H.out];rfl,λa5 D=>?_⟩,N _ hbr⟩;rw[H.out] at D;obtain rfl:=inj D;have:=wZ (cap:=b.length) hrow Q0 hsz;rwa[hml] at this
 have ao:Hid (eX (cI d) b.length=none):=by
  have:=aG.out;rw[show b.length*b.length+2-i=0 by omega] at this;exact this.symm
 have aZ:¬(i:Int)<=(b.length:Int)*(b.length:Int)+1:=by exact_mod_cast aa
 go_wp2_with fail;go_ret2;exact⟨⟨_,by rw[ao.out];rfl,λa5 D=>by rw[ao.out] at D;cases D⟩,N _ hbr⟩
def ge(q:Prd):Bool:= !fY q.name
def g7(q:Prd):Bool:= !bQ q.arity 0 2
def iI(q:Prd):Bool:= !bQ q.kind 0 3
def rA(ps:List Prd)(k:Nat):ByteArray:=(ps[k]?.map Prd.name).getD ⟨#[]⟩
def mi(s:ByteArray)(q:Prd):Bool:=q.name.toList==s.toList
def oe(ps:List Prd)(k:Nat):Bool:=(ps.take k).any (mi (rA ps k))
theorem B4(a):iJ a=(List.range a).any (oe a):=rfl
theorem ub{a b}(c:5<a.length\/8<b.length):ej a b=2:=by rw[ej,if_pos c]
theorem BQ{a b}(c:¬(5<a.length\/8<b.length))(d:a.any ge=true):ej a b=5:=by rw[ej,if_neg c,if_pos (show a.any (λf=> !fY f.name)=true from d)]
theorem TK(h:p:=by rw[show ps.any (λq=> !fY q.name)=false from h1];simp):p:=h
theorem BS{ps a}(b:¬(5<ps.length\/8<a.length))(h1:ps.any ge=false)(c:iJ ps=true):ej ps a=6:=by
 rw[ej,if_neg b,if_neg TK,if_pos c]
theorem BK{ps a}(b:¬(5<ps.length\/8<a.length))(h1:ps.any ge=false)(c:iJ ps=false)(d:ps.any g7=true):ej ps a=3:=by
 rw[ej,if_neg b,if_neg TK,if_neg (by rw[c];simp),if_pos (show ps.any (λq=> !bQ q.arity 0 2)=true from d)]
theorem TM(h:p:=by rw[show ps.any (λq=> !bQ q.arity 0 2)=false from h3];simp):p:=h
theorem BM{ps a}(b:¬(5<ps.length\/8<a.length))(h1:ps.any ge=false)(c:iJ ps=false)(h3:ps.any g7=false)(d:ps.any iI=true):ej ps a=4:=by
 rw[ej,if_neg b,if_neg TK,if_neg (by rw[c];simp),if_neg TM,if_pos (show ps.any (λq=> !bQ q.kind 0 3)=true from d)]
theorem xf{ps a}(b:¬(5<ps.length\/8<a.length))(h1:ps.any ge=false)(c:iJ ps=false)(h3:ps.any g7=false)(d:ps.any iI=false):ej ps a=jO ps a:=by
 rw[ej,if_neg b,if_neg TK,if_neg (by rw[c];simp),if_neg TM,if_neg (by rw[show ps.any (λq=> !bQ q.kind 0 3)=false from d];simp)]
theorem od{b c e}(a:ej b c=e)(d:e≠0):bP b c=e:=by rw[bP,if_pos (by rw[a];exact d),a]
theorem TN(h:p:=by rw[h];simp):p:=h
theorem xg{a b}(h:ej a b=0):bP a b=if(eX (cI b) a).isSome then 0 else 8:=by rw[bP,if_neg TN]
theorem Jm{p:Nat->Bool}{n k}(a:k<n)(b:p k=true):(List.range n).any p=true:=List.any_eq_true.2 ⟨k,List.mem_range.2 a,b⟩
theorem BU{p:Nat->Bool}{k}:(List.range (k+1)).any p=((List.range k).any p||p k):=by simp[List.range_succ]
theorem t8{a k}(b:k<a.length):rA a k=a[k].name:=by simp[rA,b]
def dU(ps:List Prd):Prop:=∀q∈ps,q.name.size<=9223372036854775807
theorem TO(h:p:=by rw[h.cell (p:=⟨w,0,none⟩) (by simp)];simp[go_sem]):p:=h
theorem TP(h:p:=by rw[h.cell (p:=⟨w,1,none⟩) (by simp)];simp[go_sem]):p:=h
theorem TQ(h:p:=by decide):p:=h
theorem TR(h:p:=by rw[H.out];rfl):p:=h
theorem TS(h:p:=by rw[j5 hlt,hall,h];rfl):p:=h
theorem TT(h:p:=by kernel_rfl):p:=h
theorem afh(h:p:=by
 clear HT HF
 go_wp2_with(first|(go_at_call 87;refine mq_ (et _ _ _ _) ?_;rw[hq]))
 exact⟨⟨j+1,Q0,Rv,H.out,hbr⟩,S6⟩):p:=h
theorem afj(h:p:=by
 clear HT HF
 go_wp2_with(first|(go_at_call 87;refine mq_ (et _ _ _ _) ?_;rw[hq]))
 go_ret
 exact⟨TR,hB _ hbr⟩):p:=h
theorem abn(h:p:=by
 go_enter func38,ntmps38
 go_wp2_with fail
 go_ret
 exact⟨TR,bH _ _⟩):p:=h
theorem tY(w:World)(ak am b c)(ah:bR w ak b)(ai:ck w am c)(ag:dU b):Calls prog 38 #[.agg #[ak,am]] w λe aR=>e=.returned (.int .i64 (bP b c))/\Below w w aR:=by
 have x:=hid_ ah;have ab:=hid_ ai;have U:=hid_ ag;clear ag;obtain⟨l,i,rfl,a4,aH⟩:=ah;obtain⟨q,r,rfl,a5,aI⟩:=ai;clear aH aI;have hB:=hid_ λv (h:Below (w.heap.size+1) (w.alloc (.cells #[.slice l b i,.slice q c r] 30)) v)=>(bH _ _).trans (h.mono Q0)
 have z:Hid (∀v,Below (w.heap.size+1) (w.alloc (.cells #[.slice l b i,.slice q c r] 30)) v->v.cell? w=some (.slice l b i)/\v.cell? ⟨w,1,none⟩=some (.slice q c r)):=λv h=>
  ⟨TO,TP⟩
 by_cases aE:5<b.length
 .have H:Hid (bP b c=2):=od (ub (.inl aE)) TQ;have ac:(5:Int)<(b.length:Int):=Q0;exact abn
 by_cases aF:8<c.length
 .have H:Hid (bP b c=2):=od (ub (.inr aF)) TQ;have ac:¬(5:Int)<(b.length:Int):=Q0;have aG:(8:Int)<(c.length:Int):=Q0;exact abn
 have C:Hid (¬(5<b.length\/8<c.length)):=by show¬_;omega
 have ac:¬(5:Int)<(b.length:Int):=Q0;have aG:¬(8:Int)<(c.length:Int):=Q0;go_enter func38,ntmps38;go_wp2_with fail;go_loopw [3] (λd wr=>∃j:Nat,j<=b.length/\d=.int .i64 j/\(b.take j).any ge=false/\Below (w.heap.size+1) (w.alloc (.cells #[.slice l b i,.slice q c r] 30)) wr) (λd _=>b.length-(intOf d).toNat)
 case atStart=>exact⟨0,zero_le _,rfl,rfl,Below.refl _ _⟩
 obtain⟨j,J,rfl,hall,hbr⟩:=hrel;obtain⟨m,n⟩:=z _ hbr;by_cases hlt:j<b.length
 .obtain⟨k,t,y,hv,s,o⟩:=cN x hlt;obtain⟨rfl,rfl⟩:l=some ⟨k,t,none⟩/\i=y:=S2;have f:=hB _ hbr;obtain⟨B,P,Q⟩:=py.a w wr k _ _ f s o;have M:=U _ (getElem_mem hlt);have HT:Hid (ge b[j]=false->(b.take (j+1)).any ge=false):=λh=>TS;have HF:=hid_ (λh=>od (BQ C.out (mZ hlt h)) TQ);have K:(0:Int)<=(j:Int):=Q0;have L:(j:Int)<(b.length:Int):=Q0;clear hv o hall;generalize b[j]=F at*;cases hq:fY F.name
  .have H:=hid_ (HF (by rw[ge,hq];rfl));clear HT HF;go_wp2_with(first|(go_at_call 89;refine mo_ (BE _ _ M) λR D=>?_;rw[hq]));go_ret;exact⟨TR,hB _ (hbr.trans (D.mono RI))⟩
  have H:=hid_ (HT (by rw[ge,hq];rfl));clear HT HF;go_wp2_with(first|(go_at_call 89;refine mo_ (BE _ _ M) λR D=>?_;rw[hq]));exact⟨⟨j+1,Q0,Rv,H.out,(hbr.trans (D.mono RI))⟩,S6⟩
 have G:=hid_ (l8 hlt hall);clear hall;obtain rfl:j=b.length:=Q0;go_wp2_with fail;go_loopw [4] (λd wr=>∃j:Nat,j<=b.length/\d=.int .i64 j/\(List.range j).any (oe b)=false/\Below (w.heap.size+1) (w.alloc (.cells #[.slice l b i,.slice q c r] 30)) wr) (λd _=>b.length-(intOf d).toNat)
 case atStart=>exact⟨0,zero_le _,rfl,rfl,hbr⟩
 clear hbr m n;obtain⟨j,J,rfl,hall,hbr⟩:=hrel;obtain⟨m,n⟩:=z _ hbr;by_cases hlt:j<b.length
 .go_wp2_with fail;go_loopw [5] (λd wr=>∃g:Nat,g<=j/\d=.int .i64 g/\(b.take g).any (mi (rA b j))=false/\Below (w.heap.size+1) (w.alloc (.cells #[.slice l b i,.slice q c r] 30)) wr) (λd _=>j-(intOf d).toNat)
  case atStart=>exact⟨0,zero_le _,rfl,rfl,hbr⟩
  clear hbr m n;obtain⟨g,aZ,rfl,N,hbr⟩:=hrel;obtain⟨m,n⟩:=z _ hbr;have f:=hB _ hbr;by_cases a2:g<j
  .have af:g<b.length:=Q0;obtain⟨k,t,y,hv,s,o⟩:=cN x hlt;obtain⟨rfl,rfl⟩:l=some ⟨k,t,none⟩/\i=y:=S2;obtain⟨aC,aK,aD,Y,aW,ad⟩:=cN x af;obtain⟨⟨rfl,rfl⟩,rfl⟩:(k=aC/\t=aK)/\i=aD:=by simpa using Y
   have B:=(py.a w wr k _ _ f s o).1;have aQ:=(py.a w wr k _ _ f s ad).1;have HT:Hid (mi b[j].name b[g]=false->(b.take (g+1)).any (mi (rA b j))=false):=λh=>by rw[j5 af,N,t8 hlt,h];rfl
   have HF:=hid_ λ(h:mi b[j].name b[g]=true)=>od (BS C G (by rw[B4];exact Jm hlt (List.any_eq_true.2 ⟨b[g],List.mem_take_iff_getElem.2 ⟨g,Q0,rfl⟩,by rw[t8 hlt];exact h⟩))) TQ;have u:=lt_of_lt_of_le s f.size;have O:w.heap.size<wr.heap.size:=RI;have a0:(0:Int)<=(g:Int):=Q0;have a1:(g:Int)<(b.length:Int):=Q0;have K:(0:Int)<=(j:Int):=Q0;have L:(j:Int)<(b.length:Int):=Q0;have a3:(g:Int)<(j:Int):=Q0;clear hv Y o ad N;generalize b[j]=a7 at*;generalize b[g]=a8 at*;have W:=lo_ O m;have X:=lo_ u B;have aw:=lo_ u aQ;go_wp2_with fail;refine dz wr.heap.size TT TT ?_;repeat(go_big_quiet_step (fail))
   refine wpQuiet_nil ?_;rintro _ ⟨⟨R,E⟩,rfl⟩;clear W X aw;go_wp2_with fail
   case roundEnd=>
    rename_i hq;exact⟨⟨g+1,Q0,Rv,HT hq,hbr.trans (E.mono RI)⟩,S6⟩
   rename_i hq;go_ret;exact⟨by rw[HF hq];rfl,f.trans (E.mono f.size)⟩
  obtain rfl:g=j:=Q0
  have HT:Hid ((List.range (g+1)).any (oe b)=false):=by
   show _=_;rw[BU,hall,oe,N];rfl
  clear N hall;go_wp2_with fail;exact⟨⟨g+1,Q0,Rv,HT.out,hbr⟩,S6⟩
 obtain rfl:j=b.length:=Q0;have S:Hid (iJ b=false):=hall;clear hall;go_wp2_with fail;go_loopw [6] (λd wr=>∃j:Nat,j<=b.length/\d=.int .i64 j/\(b.take j).any g7=false/\Below (w.heap.size+1) (w.alloc (.cells #[.slice l b i,.slice q c r] 30)) wr) (λd _=>b.length-(intOf d).toNat)
 case atStart=>exact⟨0,zero_le _,rfl,rfl,hbr⟩
 clear hbr m n;obtain⟨j,J,rfl,hall,hbr⟩:=hrel;obtain⟨m,n⟩:=z _ hbr;by_cases hlt:j<b.length
 .obtain⟨k,t,y,hv,s,o⟩:=cN x hlt;obtain⟨rfl,rfl⟩:l=some ⟨k,t,none⟩/\i=y:=S2;have f:=hB _ hbr;obtain⟨B,P,Q⟩:=py.a w wr k _ _ f s o;have M:=U _ (getElem_mem hlt);have HT:Hid (g7 b[j]=false->(b.take (j+1)).any g7=false):=λh=>TS;have HF:=hid_ (λh=>od (BK C G S (mZ hlt h)) TQ);have K:(0:Int)<=(j:Int):=Q0;have L:(j:Int)<(b.length:Int):=Q0;clear hv o hall;generalize b[j]=F at*;cases hq:bQ F.arity 0 2
  .have H:=hid_ (HF (by rw[g7,hq];rfl));exact afj
  have H:=hid_ (HT (by rw[g7,hq];rfl));exact afh
 have Z:=hid_ (l8 hlt hall);clear hall;obtain rfl:j=b.length:=Q0;go_wp2_with fail;go_loopw [7] (λd wr=>∃j:Nat,j<=b.length/\d=.int .i64 j/\(b.take j).any iI=false/\Below (w.heap.size+1) (w.alloc (.cells #[.slice l b i,.slice q c r] 30)) wr) (λd _=>b.length-(intOf d).toNat)
 case atStart=>exact⟨0,zero_le _,rfl,rfl,hbr⟩
 clear hbr m n;obtain⟨j,J,rfl,hall,hbr⟩:=hrel;obtain⟨m,n⟩:=z _ hbr;by_cases hlt:j<b.length
 .obtain⟨k,t,y,hv,s,o⟩:=cN x hlt;obtain⟨rfl,rfl⟩:l=some ⟨k,t,none⟩/\i=y:=S2;have f:=hB _ hbr;obtain⟨B,P,Q⟩:=py.a w wr k _ _ f s o;have M:=U _ (getElem_mem hlt);have HT:Hid (iI b[j]=false->(b.take (j+1)).any iI=false):=λh=>TS;have HF:=hid_ (λh=>od (BM C G S Z (mZ hlt h)) TQ);have K:(0:Int)<=(j:Int):=Q0;have L:(j:Int)<(b.length:Int):=Q0;clear hv o hall;generalize b[j]=F at*;cases hq:bQ F.kind 0 3
  .have H:=hid_ (HF (by rw[iI,hq];rfl));exact afj
  have H:=hid_ (HT (by rw[iI,hq];rfl));exact afh
 have ap:=hid_ (l8 hlt hall);clear hall;obtain rfl:j=b.length:=Q0;go_wp2_with fail;have T:=hid_ (xf C G S Z ap.out);go_loopw [8] (λd wr=>∃j:Nat,j<=c.length/\d=.int .i64 j/\(c.take j).all (λA=>cx b A==0)=true/\Below (w.heap.size+1) (w.alloc (.cells #[.slice l b i,.slice q c r] 30)) wr) (λd _=>c.length-(intOf d).toNat)
 case atStart=>exact⟨0,zero_le _,rfl,rfl,hbr⟩
 clear hbr m n;obtain⟨j,J,rfl,hall,hbr⟩:=hrel;obtain⟨m,n⟩:=z _ hbr;have f:=hB _ hbr;by_cases hlt:j<c.length
 .obtain⟨al,aM,aL,hv,aj,ae⟩:=cN ab hlt;obtain⟨rfl,rfl⟩:q=some ⟨al,aM,none⟩/\r=aL:=S2;obtain⟨B,⟨Y,P,an⟩,Q,aO,aU,aP,ao⟩:=zk.a w wr al _ _ f aj ae;have u:=lt_of_lt_of_le aj f.size;have O:w.heap.size<wr.heap.size:=RI;have V:=hid_ λv (aJ:Below wr wr v)=>bR.a (f.trans (aJ.mono f.size)) x.out;have av:=lt_ an;have ar:=lb_ ao;have HT:Hid (cx b c[j]=0->(c.take (j+1)).all (λA=>cx b A==0)=true):=λh=>by rw[mz hlt,hall,h];rfl
  have HF:=hid_ (λh=>od (T.out.trans (xi hlt hall h)) h);have K:(0:Int)<=(j:Int):=Q0;have L:(j:Int)<(c.length:Int):=Q0;clear hv ae hall;obtain⟨aS,aT,rfl,aX,_⟩:=ao;obtain⟨aV,aY,rfl,_⟩:=an;generalize c[j]=A at*;have W:=lo_ O m;have X:=lo_ O n;have ax:=lo_ u B;have ay:=lo_ u P;have az:=lo_ u Q;have aA:=lo_ u aO;have aB:=lo_ u aP;go_wp2_with fail;refine dz wr.heap.size TT TT ?_;repeat(go_big_quiet_step (exact dy (Kl _ _ b A _ _ (V _ (Low.low _)) (av _ (Low.low _)) (ar _ (Low.low _)))))
  refine wpQuiet_nil ?_;rintro _ ⟨⟨R,E⟩,rfl⟩;clear W X ax ay az aA aB;by_cases I:cx b A=0
  .have H:=HT I;rw[I];clear HT HF I;go_wp2_with fail;exact⟨⟨j+1,Q0,Rv,H,hbr.trans (E.mono RI)⟩,S6⟩
  have H:=HF I;clear HT HF;go_wp2_with fail;go_ret;exact⟨by rw[H];rfl,f.trans (E.mono f.size)⟩
 obtain rfl:j=c.length:=Q0;have aa:=hid_ (T.out.trans (ud (nQ Q0 hall)));have aq:=hid_ (xg aa.out);clear hall T;have V:=hid_ (bR.a f x.out);have au:=hid_ (ck.a f ab.out);go_wp2_with(first|(go_at_call 91;refine(BZ _ _ _ b c V au Q0 Q0 (gN aa.out).2.2).mono ?_;rintro e R ⟨⟨a6,rfl,_⟩,D⟩;generalize(eX (cI c) b).isSome=aN at*;cases aN))
 all_goals
  go_ret;exact⟨by rw[aq.out];rfl,f.trans (D.mono f.size)⟩
theorem T7(h:p:=by first|exact Below.refl _ _|exact bH _ _):p:=h
theorem pX(d:World)(i j b c)(g:bR d i b)(h:ck d j c)(o:b.length<=5)(p:c.length<=8)(r:∀v∈c,aC b v):Calls prog 44 #[.agg #[i,j]] d λe k=>(∃f,e=.returned f/\∀l,eX (cI c) b.length=some l->dD k f l)/\Below d d k:=by
 have m:=hid_ g;have n:=hid_ h;obtain⟨y,z,rfl,w,s⟩:=g;obtain⟨A,B,rfl,x,t⟩:=h;clear s t;go_enter func44,ntmps44;go_wp2_with(first|(go_at_call 91;refine(BZ _ _ _ b c (bR.a T7 m.out) (ck.a T7 n.out) o p r).mono ?_;rintro e C ⟨⟨f,rfl,u⟩,q⟩));go_ret;exact⟨⟨f,rfl,u⟩,cU (bH _ _) q⟩
def kf(x:Bool):Value:=.bool x
theorem lG{b:World}{a l}(d:dq b a (l.map kf)){k}(c:k<l.length):b.cell? ⟨a,k,none⟩=some (.bool (ki l k))/\b.frozen? ⟨a,k,none⟩=false:=by
 refine d k _ ?_;rw[getElem?_map,getElem?_eq_getElem c,ki,List.getD_eq_getElem?_getD,getElem?_eq_getElem c];rfl
theorem pR{d:World}{a:Nat}{l:List Bool}(f:dq d a (l.map kf)){k:Nat}(hk:k<l.length)(c:Bool):dq (d.setCell ⟨a,k,none⟩ (.bool c)) a ((l.set k c).map kf):=by
 have:=f.b (k:=k) Rq (kf c);rwa[<-map_set] at this
theorem tX{a b:World}{c d g}(f:Below (a.alloc (.cells #[c,d] g)).heap.size (a.alloc (.cells #[c,d] g)) b):b.cell? a=some c/\b.cell? ⟨a,1,none⟩=some d/\a.heap.size<b.heap.size:=
 ⟨by rw[f.cell (p:=⟨a,0,none⟩) Q1];simp[go_sem],by rw[f.cell (p:=⟨a,1,none⟩) Q1];simp[go_sem],by have:=f.size;simp at this;omega⟩
theorem jL{c d:World}{a:Nat}{g h}(f:Below c c d)(b:c.cell? a=some g/\c.cell? ⟨a,1,none⟩=some h/\a<c.heap.size):d.cell? a=some g/\d.cell? ⟨a,1,none⟩=some h/\a<d.heap.size:=
 ⟨(bF f b.2.2).trans b.1,(bF f b.2.2).trans b.2.1,lt_of_lt_of_le b.2.2 f.size⟩
