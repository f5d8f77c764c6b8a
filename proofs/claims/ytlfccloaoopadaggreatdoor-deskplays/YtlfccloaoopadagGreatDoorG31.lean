import Derived.Deep.AppendLies
import Derived.Deep.DeepAppendWide
import Derived.Test.YtlfccloaoopadagGreatDoorG30
open Go.Proofs.Tryz
set_option maxRecDepth 100000
set_option maxHeartbeats 0
open Classical (byContradiction)
open Go.Builtin (append_ lenOf zeroCells)
open Go.World (cell? size_alloc)
open List (Nodup all_eq_true append_assoc append_nil cons_append getElem_mem length_append length_drop length_map length_take map_cons map_flatMap map_map map_nil mem_cons mem_flatMap mem_map pairwise_cons pairwise_map range_succ)
open Nat (le_refl le_trans lt_of_lt_of_le zero_add zero_le)
open Bool (and_eq_true)
open Go.Value.slice (injEq)
namespace Go.Proofs.YtlfccloaoopadagGreatDoor
open Go.ChangeShapes Go.WideShapes Go.ChangeAt Go.RowKit
variable{p:Prop}
def cB:List Fct->List Value
 |[]=>[]
 |x::l=>.int .i64 x.pred:: .int .i64 x.a:: .int .i64 x.b:: .int .i64 x.val::cB l
theorem oN:∀l,(cB l).length=l.length*4
 |[]=>rfl
 |x::l=>by simp only[cB,List.length_cons,oN l];omega
theorem qR:∀l a,cB (l++a)=cB l++cB a
 |[],a=>rfl
 |x::l,a=>by simp only[cons_append,cB,qR l a]
theorem oO:∀l,∀a∈cB l,a.oneCell'=true
 |[],a,h=>by cases h
 |x::l,a,h=>by
  simp only[cB,mem_cons] at h
  rcases h with rfl|rfl|rfl|rfl|h
  .rfl
  .rfl
  .rfl
  .rfl
  exact oO l a h
theorem zC:∀(l:List Fct) (c:Nat) (d:Fct),l[c]? =some d->(cB l)[c*4]? =some (.int .i64 d.pred)/\(cB l)[c*4+1]? =some (.int .i64 d.a)/\(cB l)[c*4+2]? =some (.int .i64 d.b)/\(cB l)[c*4+3]? =some (.int .i64 d.val)
 |[],c,d,h=>Rf
 |y::l,0,d,h=>by
  obtain rfl:y=d:=Q2
  exact⟨rfl,rfl,rfl,rfl⟩
 |y::l,c+1,d,h=>by
  have:=zC l c d Q2
  rw[show(c+1)*4=c*4+4 by omega]
  simpa[cB] using this
theorem Ur(h:p:=by simpa[cB] using h.symm):p:=h
theorem zD:∀(l:List Fct) (d:Nat) (c:Value),(cB l)[d]? =some c->∃f g,l[f]? =some g/\((d=f*4/\c=.int .i64 g.pred)\/(d=f*4+1/\c=.int .i64 g.a)\/(d=f*4+2/\c=.int .i64 g.b)\/(d=f*4+3/\c=.int .i64 g.val))
 |[],d,c,h=>by simp[cB] at h
 |y::l,0,c,h=>⟨0,y,rfl,.inl ⟨rfl,Ur⟩⟩
 |y::l,1,c,h=>⟨0,y,rfl,.inr (.inl ⟨rfl,Ur⟩)⟩
 |y::l,2,c,h=>⟨0,y,rfl,.inr (.inr (.inl ⟨rfl,Ur⟩))⟩
 |y::l,3,c,h=>⟨0,y,rfl,.inr (.inr (.inr ⟨rfl,Ur⟩))⟩
 |y::l,d+4,c,h=>by
  obtain⟨f,g,hx,i⟩:=zD l d c (by simpa[cB] using h)
  refine⟨f+1,g,SA,?_⟩
  rcases i with⟨rfl,rfl⟩|⟨rfl,rfl⟩|⟨rfl,rfl⟩|⟨rfl,rfl⟩
  .exact .inl ⟨Q0,rfl⟩
  .exact .inr (.inl ⟨Q0,rfl⟩)
  .exact .inr (.inr (.inl ⟨Q0,rfl⟩))
  exact .inr (.inr (.inr ⟨Q0,rfl⟩))
theorem zy(a c b:Nat):(⟨a,c,none⟩:Addr).add b=⟨a,c+b,none⟩:=by simp[Addr.add]
def fD(w:World)(v:Value)(xs:List Fct):Prop:=
 (∃c,v=.slice none 0 c/\xs=[])\/∃ad c,v=.slice (some ad) xs c/\∀j u,(cB xs)[j]? =some u->w.cell? (ad.add j)=some u
theorem FT{a:World}{p:Addr}{c:Value}(b:a.cell? p=some c):p.block<a.heap.size:=by
 refine byContradiction λd=>?_;have:a.heap[p.block]? =none:=RD;simp[cell?,this] at b
theorem fD.a{c j:World}{i:Value}{k:List Fct}(b:fD c i k)(o:Below c c j):fD j i k:=by
 rcases b with b|⟨l,m,n,d⟩
 .exact .inl b
 exact .inr ⟨l,m,n,λg h f=>(o.cell (FT (d g h f))).trans (d g h f)⟩
theorem tj{i:World}{g h:Nat}{f:List Fct}(n:∀a d,f[a]? =some d->m7 i g (h+a*4) d):∀b c,(cB f)[b]? =some c->i.cell? ((⟨g,h,none⟩:Addr).add b)=some c:=by
 intro b c p;obtain⟨a,d,q,o⟩:=zD f b c p;obtain⟨j,k,l,m⟩:=n a d q;rw[zy];rcases o with⟨rfl,rfl⟩|⟨rfl,rfl⟩|⟨rfl,rfl⟩|⟨rfl,rfl⟩
 .exact j
 .exact k
 .exact l
 exact m
theorem Us(h:p:=by simp[cB] at hu):p:=h
theorem tk{d:World}{c:Value}{f:List Fct}(i:bO d c f):fD d c f:=by
 obtain⟨g,a,rfl,_,b⟩:=i;rcases b with rfl|⟨j,l,rfl,_,b⟩
 .cases g with
  |none=>exact .inl ⟨a,rfl,rfl⟩
  |some h=>exact .inr ⟨h,a,rfl,λk m hu=>Us⟩
 exact .inr ⟨_,a,rfl,tj b⟩
theorem Z1(h:p:=by
 have:l=[]:=List.eq_nil_of_length_eq_zero hn
 subst this
 exact⟨none,0,rfl,Q1,.inl rfl⟩):p:=h
theorem abj(h:p:=by
 rw[List.getElem?_take_of_lt hj] at hz
 simp[cell?,hg]
 simpa using hz):p:=h
theorem lz{c:World}{base:Nat}{e:TypeId}{g:Value}{l:List Fct}(i:c.ownsRow base e 4 g l (cB l))(m:l.length<=140737488355328):bO c g l:=by
 obtain⟨v,j⟩:=i;rcases j with⟨rfl,hn⟩|⟨f,h,u,rfl,w,hg,x,y,z,n⟩
 .exact Z1
 refine⟨_,h,rfl,m,.inr ⟨f,0,rfl,(Array.getElem?_eq_some_iff.1 hg).1,?_⟩⟩;intro o t k
 have a:∀b d,(cB l)[b]? =some d->c.cell? ⟨f,0+b,none⟩=some d:=by
  intro b d hz;rw[<-n] at hz
  have hj:b<l.length*4:=by
   exact Z2
  exact abj
 obtain⟨p,q,r,s⟩:=zC l o t k;exact⟨a _ _ p,a _ _ q,a _ _ r,a _ _ s⟩
theorem zO:(prog.info? 93).map (λa=>(a.zero,a.size,a.bytes))=some (some (.agg #[.int .i64 0,.int .i64 0,.int .i64 0,.int .i64 0]),4,32):=SI
section
variable {P:Program}
theorem Gs(b:World)(f g u e:TypeId)(k:IntKind)(a:TypeInfo)(c:Value)(q:P.underlying f=some (.slice e))(r:P.underlying g=some (.int k))(m:P.info? e=some a)(t:a.zero=some c)(y:0<a.size)(n:Nat)(h:0<n)(v:(n:Int)<=1000)(l:a.bytes<=1000):
 (append_ #[f,g] u #[.slice none 0 0,.int .i64 n]).run P b=
  .ok (.slice (some ⟨b,0,none⟩) n (grownCap b n 0 e)) (b.drew.alloc (.cells (zeroCells c.cells n++zeroCells c.cells (grownCap b n 0 e-n)) e)):=by
 have d:n≠0:=Q0
 have j:¬(9223372036854775807<(n:Int)):=Q0
 have w:n*a.bytes<=1000*1000:=Nat.mul_le_mul Q0 l
 have i:¬(281474976710656<Builtin.nextslicecap n 0*a.bytes):=by rw[nextslicecap_zero h];omega
 have s:IntKind.i64.wrap (n:Int)=n:=by rw[IntKind.wrap_i64];omega
 have o:¬(281474976710656<(n:Int)*(a.bytes:Int)):=by
  have:((n*a.bytes:Nat):Int)=(n:Int)*(a.bytes:Int):=by push_cast;rfl
  omega
 have p:n*a.size≠0:=Nat.mul_ne_zero d Q0
 simp[append_,run_underlying q,run_underlying r,sizeOf,typeInfo,zeroValue,m,t,asInt,asIntOf,s,d,j,i,o,p,Question.forced,run_firstCells_none,newRow,grownCap]
 intro x
 omega
theorem Y4(h:p:=by
 unfold Oper.wp execOp
 simp only[ho,resolve,invoke,builtin,Sem.run_bind,Sem.run_pure,Result.andThen_ok,List.map_toArray,map_cons,map_nil,hsv,hxv,hr]
 exact hK _ _ h):p:=h
theorem Gy(a:World){j:Array Oper}{l:List Oper}{o:Oper}{c:Act}{i:Exit->Act->World->Prop}(t:o.guard=none)(s m:Operand)(f g:TypeId)(ho:o.op=.call {callee:=.builtin .append,args:=#[s,m],argTypes:=#[f,g]})(e:TypeId)(k:IntKind)(b:TypeInfo)(d:Value)(w:P.underlying f=some (.slice e))(x:P.underlying g=some (.int k))(u:P.info? e=some b)(y:b.zero=some d)(v:0<b.size)(n:Nat)(p:0<n)(q:(n:Int)<=1000)(r:b.bytes<=1000)(hsv:c.eval s=.slice none 0 0)(hxv:c.eval m=.int .i64 n)(h:wpList P j i l (c.put o.dst (.slice (some ⟨a,0,none⟩) n (grownCap a n 0 e))) (a.drew.alloc (.cells (zeroCells d.cells n++zeroCells d.cells (grownCap a n 0 e-n)) e))):wpList P j i (o::l) c a:=
 wpList_plain t λ_ hK=>by
  have hr:=Gs (P:=P) a f g o.type e k b d w x u y v n p q r
  exact Y4
theorem z_(f:World){j:Array Oper}{k:List Oper}{o:Oper}{d:Act}{g:Exit->Act->World->Prop}(m:o.guard=none)(s l:Operand)(c:TypeId)(ho:o.op=.call {callee:=.builtin .append,args:=#[s,l],argTypes:=#[c,c]})(e:TypeId)(t:TypeInfo)(r:P.underlying c=some (.slice e))(p:P.info? e=some t)(a:Option Addr)(n b i:Nat)(q:n<=b)(hsv:d.eval s=.slice a n b)(hxv:d.eval l=.slice none 0 i)(h:wpList P j g k (d.put o.dst (.slice a n b)) f):wpList P j g (o::k) d f:=
 wpList_plain m λ_ hK=>by
  have hr:(append_ #[c,c] o.type #[.slice a n b,.slice none 0 i]).run P f=.ok (.slice a n b) f:=by
   cases a<;>simp[append_,run_underlying r,sizeOf,typeInfo,p,lenOf,Builtin.firstCells,q,storeCells]
  exact Y4
end
theorem Ut(h:p:=by unfold maxLen;omega):p:=h
theorem aaZ(h:p:=by exact h _ w (by rw[append_nil];exact hown') ⟨rfl,rfl,rfl,le_refl _,λ_ _ _=>rfl⟩):p:=h
theorem jo(w:World){y:Array Oper}{z:List Oper}{o:Oper}{f:Act}{u:Exit->Act->World->Prop}(l:o.guard=none)(s d:Operand)(n:o.op=.call {callee:=.builtin .append,args:=#[s,d],argTypes:=#[65,65]})(g:Nat)(j:Value)(a b:List Fct)(p:w.ownsRow g 93 4 j a (cB a))(q:f.eval s=j)(A:Value)(r:f.eval d=A)(I:fD w A b)(R:a.length+b.length<=1000)(F:g<=w.heap.size)(h:∀k c,c.ownsRow g 93 4 k (a++b).length (cB (a++b))->w.grownBy c j.ownBlock->wpList prog y u z (f.put o.dst k) c):wpList prog y u (o::z) f w:=by
 obtain⟨t,m,K,J,G⟩:=info_parts zO;rcases I with⟨i,rfl,rfl⟩|⟨B,i,rfl,H⟩
 .have hown':=p;rcases p.2 with⟨rfl,M⟩|⟨D,C,L,rfl,v,x,E,N,O,Q⟩
  .refine z_ w l s d 65 n 93 t underlying65 m none 0 0 i (le_refl _) q r ?_;exact aaZ
  refine z_ w l s d 65 n 93 t underlying65 m (some ⟨D,0,none⟩) a C i E q r ?_;exact aaZ
 refine wpList_append_own_wide w l s d 65 n g 93 t _ 4 32 underlying65 m K J G rfl Q0 j a (cB a) q p B b i (cB b) r (oN b) H (oO b) Ut Q0 F ?_;intro k c v x _;exact h k c (by rw[length_append,qR];exact v) x
theorem Gd(a:World)(n:Nat)(f:0<n)(m:n<=1000):Calls prog 239 #[.slice none 0 0,n] a λe c=>∃b,e=.returned b/\c.ownsRow a.heap.size 93 4 b 0 []/\Below a a c:=by
 obtain⟨j,h,i,q,o⟩:=info_parts zO;have k:(0:Int)<(n:Int):=Q0;have l:¬(n:Int)<0:=Q0;have p:=grownCap_ge a n 0 93;have g:=grownCap_le_maxLen a n 0 93 Ut;go_enter func239,ntmps239;go_wp2_with(at_builtin;refine Gy _ rfl _ _ 65 3 rfl 93 .i64 j _ underlying65 underlying3 h i Q0 n f Q0 Q0 rfl rfl ?_);go_ret;refine⟨_,rfl,⟨rfl,.inr ⟨a,_,_,rfl,le_refl _,heap_alloc_new a.drew _,zero_le _,g,?_,Q1⟩⟩,((Below.refl _ _).drew).alloc (le_refl _) _⟩;have d:#[Value.int .i64 0,.int .i64 0,.int .i64 0,.int .i64 0].size=4:=rfl;rw[Array.size_append,size_zeroCells,size_zeroCells,d];omega
theorem Uu(h:p:=by cases hk;exact le_refl _):p:=h
theorem Z5(h:p:=by simp[Op.equalIn,run_underlying underlying65]):p:=h
theorem FX(b:World)(i:Value)(f:List Fct)(j:bO b i f)(r:0<f.length)(x:f.length<=500):Calls prog 155 #[i] b λe c=>∃n,e=.returned n/\c.ownsRow b.heap.size 93 4 n f (cB f)/\Below b b c:=by
 have p:=hid_ (tk j);obtain⟨w,h,rfl,z,k⟩:=j;obtain⟨d,m,rfl,y,_⟩:=k.resolve_left (by rintro rfl;simp at r);clear k
 have A:∀c,Sem.run prog (binOp .eql 65 (.slice (some ⟨d,m,none⟩) f h) (.slice none 0 0)) c=.ok (.bool false) c:=λc=>by
  have q:∀g:Nat,(Op.equalIn (g+1) 65 (.slice (some ⟨d,m,none⟩) f h) (.slice none 0 0)).run prog c=.ok false c:=λg=>by
   exact Z5
  simp only[binOp];simp[Op.equal,Op.maxDepth,q 9999]
 go_enter func155,ntmps155;have o:Hid ((b.alloc (.cells #[] 93)).ownsRow b.heap.size 93 4 (.slice (some ⟨b,0,none⟩) 0 0) ([]:List Fct).length (cB [])):=⟨rfl,.inr ⟨b,0,#[],rfl,le_refl _,heap_alloc_new b _,le_refl _,zero_le _,rfl,rfl⟩⟩;go_wp2_with(at_builtin;refine jo _ rfl _ _ rfl b.heap.size (.slice (some ⟨b,0,none⟩) 0 0) [] f o rfl _ rfl (p.out.a (bH _ _)) RD Q1 ?_;intro u v t l;have s:Below b b v:=(bH _ _).grown l Q1 (λB hk=>Uu);clear l);go_ret;exact⟨u,rfl,t,s⟩
theorem gY{d b f:World}{a:Nat}{e:TypeId}{c:Value}{n:Nat}{m:List Value}(g:Below a d b)(j:b.ownsRow a e 4 c n m)(h:b.grownBy f c.ownBlock)(k:a<=b.heap.size):Below a d f:=
 g.grown h k (λl i=>(j.lt l i).1)
theorem Uv(h:p:=by first|omega|(simp;omega)):p:=h
theorem FY(b:World)(s:Nat)(w x y:Option Addr)(z A B:Nat)(c d h:List Fct)(D:b.cell? s=some (.slice w c z))(N:b.cell? ⟨s,1,none⟩=some (.slice x d A))(O:b.cell? ⟨s,2,none⟩=some (.slice y h B))(E:fD b (.slice w c z) c)(F:fD b (.slice x d A) d)(G:fD b (.slice y h B) h)(W:0<d.length)(V:c.length+d.length+h.length<=500):Calls prog 201 #[.slice (some ⟨s,0,none⟩) 3 3] b λe J=>∃j,e=.returned j/\J.ownsRow b.heap.size 93 4 j (c++d++h).length (cB (c++d++h))/\Below b b J:=by
 have K:=hid_ E;have L:=hid_ F;have M:=hid_ G;have u:=FU D;clear E F G;go_enter func201,ntmps201;go_wp2_with fail;go_loop [3,11] (λn g=>(n=.int .i64 0/\g=.int .i64 0)\/(n=.int .i64 c.length/\g=.int .i64 1)\/(n=.int .i64 ((c.length+d.length:Nat):Int)/\g=.int .i64 2)\/(n=.int .i64 ((c.length+d.length+h.length:Nat):Int)/\g=.int .i64 3)) (λ_ g=>3-(intOf g).toNat)
 case atStart=>exact .inl ⟨rfl,rfl⟩
 rcases hrel with⟨rfl,rfl⟩|⟨rfl,rfl⟩|⟨rfl,rfl⟩|⟨rfl,rfl⟩
 .have C:¬((c.length:Int)<0):=Q0;go_wp2_with fail;go_round
  case rel=>exact .inr (.inl ⟨Rv,Rv⟩)
  simp[intOf]
 .have C:¬((c.length:Int)+(d.length:Int)<0):=Q0;go_wp2_with fail;go_round
  case rel=>exact .inr (.inr (.inl ⟨Rv,Rv⟩))
  simp[intOf]
 .have C:¬(((c.length+d.length:Nat):Int)+(h.length:Int)<0):=Q0;have U:¬((c.length:Int)+(d.length:Int)+(h.length:Int)<0):=Q0;go_wp2_with fail;go_round
  case rel=>exact .inr (.inr (.inr ⟨Rv,Rv⟩))
  simp[intOf]
 have v:=Gd b (c.length+d.length+h.length) Q0 Q0;simp only[Int.natCast_add] at v;go_wp2_with(go_at_call 239;refine v.mono ?_;rintro e o ⟨X,rfl,S,Q⟩);clear v;go_loopw [6,27] (λn g wr=>∃(m:List Fct) (j:Value),j=n/\Below b b wr/\wr.ownsRow b.heap.size 93 4 j m (cB m)/\(([]=m/\g=.int .i64 0)\/(c=m/\g=.int .i64 1)\/(c++d=m/\g=.int .i64 2)\/(c++d++h=m/\g=.int .i64 3))) (λ_ g _=>3-(intOf g).toNat)
 case atStart=>exact⟨[],_,rfl,Q,S,.inl ⟨rfl,rfl⟩⟩
 case round=>
 obtain⟨m,j,T,f,l,R⟩:=hrel;subst T;rcases R with⟨t,rfl⟩|⟨t,rfl⟩|⟨t,rfl⟩|⟨t,rfl⟩<;>subst t
 .have H:=(bF f u).trans D;have p:=hid_ (K.out.a f);have i:Hid (wr.ownsRow b.heap.size 93 4 j ([]).length (cB ([]))):=l;clear l;go_wp2_with(at_builtin;refine jo _ rfl _ _ rfl b.heap.size j ([]) c i rfl _ rfl p Uv f.size ?_;intro I o r k;have q:Below b b o:=gY f i k f.size;clear k);go_roundw
  case rel=>exact⟨_,_,rfl,q,r,.inr (.inl ⟨rfl,Rv⟩)⟩
  simp[intOf]
 .have H:=(bF f u).trans N;have p:=hid_ (L.out.a f);have i:=hid_ l;clear l;go_wp2_with(at_builtin;refine jo _ rfl _ _ rfl b.heap.size j (c) d i rfl _ rfl p Uv f.size ?_;intro I o r k;have q:Below b b o:=gY f i k f.size;clear k);go_roundw
  case rel=>exact⟨_,_,rfl,q,r,.inr (.inr (.inl ⟨rfl,Rv⟩))⟩
  simp[intOf]
 .have H:=(bF f u).trans O;have p:=hid_ (M.out.a f);have i:=hid_ l;clear l;go_wp2_with(at_builtin;refine jo _ rfl _ _ rfl b.heap.size j (c++d) h i rfl _ rfl p Uv f.size ?_;intro I o r k;have q:Below b b o:=gY f i k f.size;clear k);go_roundw
  case rel=>exact⟨_,_,rfl,q,r,.inr (.inr (.inr ⟨rfl,Rv⟩))⟩
  simp[intOf]
 have i:=hid_ l;clear l;go_wp2_with fail;go_ret;exact⟨_,rfl,i.out,f⟩
theorem zY{b f a}(c:bL b<a):dK (b::f) a=dK f a+1:=by rw[qY,if_pos c]
theorem zW{a f b}(d:fV (a::f))(c:¬bL a<b):dK (a::f) b=0:=by
 rw[qY,if_neg c];exact tr (λh g=>by have:=(pairwise_cons.1 d).1 h g;omega)
theorem FR{K:Int->Int}{a f}(d:fV f)(b:cd f (bL a)=none):cy K a f=f.take (dK f (bL a))++[a]++f.drop (dK f (bL a))/\dR K a f=true:=by
 induction f with
 |nil=>exact⟨rfl,rfl⟩
 |cons g f ih=>
  rw[eL] at b;by_cases e:bL g=bL a
  .rw[if_pos e] at b;cases b
  rw[if_neg e] at b;rw[cy,dR,if_neg e,if_neg e];by_cases c:bL a<bL g
  .rw[if_pos c,if_pos c,zW d Q0];exact⟨rfl,rfl⟩
  rw[if_neg c,if_neg c,zY Q0];obtain⟨h,i⟩:=ih (pairwise_cons.1 d).2 b;rw[h,i];exact⟨rfl,rfl⟩
theorem FS{K:Int->Int}{c f}(h:fV f)(g:dK f (bL c)<f.length)(d:bL f[dK f (bL c)]=bL c):cy K c f=f.set (dK f (bL c)) ⟨f[dK f (bL c)].pred,f[dK f (bL c)].a,f[dK f (bL c)].b,dv (K c.pred) f[dK f (bL c)].val c.val⟩/\dR K c f=(dv (K c.pred) f[dK f (bL c)].val c.val != f[dK f (bL c)].val):=by
 induction f with
 |nil=>simp at g
 |cons l f ih=>
  by_cases i:bL l<bL c
  .have e:=zY (f:=f) i;simp only[e,List.getElem_cons_succ,List.length_cons,Nat.add_lt_add_iff_right,List.set_cons_succ] at d g⊢;obtain⟨j,k⟩:=ih (pairwise_cons.1 h).2 g d;rw[cy,dR,if_neg Q0,if_neg Q0,if_neg Q0,if_neg Q0,j,k];exact⟨rfl,rfl⟩
  have e:=zW h i;simp only[e,List.getElem_cons_zero,List.set_cons_zero] at d g⊢;rw[cy,dR,if_pos d,if_pos d];exact⟨rfl,rfl⟩
theorem mB{i f}(c:bW i f=0):f.length<=125:=by
 have g:=cG c;have k:=(eR c).1
 have h:∀a (b:a<f.length),(a:Int)<=bL f[a]:=by
  intro a;induction a with
  |zero=>
   intro b;obtain⟨_,_,_,_,_,_,_⟩:=g.fine f[0] (getElem_mem b);unfold bL;omega
  |succ a ih=>
   intro b;have d:=ih Q0;have j:=vV (eR c).2.2 a b;omega
 refine byContradiction λl=>?_;have d:=h 125 Q0;obtain⟨_,_,_,_,_,_,_⟩:=g.fine f[125] (getElem_mem Q0);unfold bL at d;omega
def jG(ps:List Prd)(f:List Fct)(x:Fct):List Fct×Bool×Int:=if ii ps f x≠0 then([],false,ii ps f x) else(cy (bJ ps) x f,dR (bJ ps) x f,0)
def eQ(v:Value):Prop:=∃a n c,v=.slice a n c/\n<=c/\(a=none->c=0)
theorem zB{h:World}{c e g n b i}(a:h.ownsRow c e g b n i):eQ b:=by
 rcases a.2 with⟨rfl,_⟩|⟨k,d,j,rfl,_,_,f,_⟩
 .exact⟨none,0,0,rfl,le_refl _,λ_=>rfl⟩
 exact⟨_,n,d,rfl,f,λa=>by cases a⟩
theorem ie(a:World):bO a (.slice none 0 0) []:=⟨none,0,rfl,Q1,.inl rfl⟩
theorem qQ:eQ (.slice none 0 0):=⟨none,0,0,rfl,le_refl _,λ_=>rfl⟩
def fW(n:Nat)(v:Value):Prop:=eQ v/\∀b,v.ownBlock=some b->n<=b
def gw(w:World)(v:Value):Prop:=∀g,v.ownBlock=some g->(∃n c,v=.slice (some ⟨g,0,none⟩) n c)/\∃cur,w.heap[g]? =some (.cells cur 93 (0,0))
theorem tt{c:World}{d n b i}(g:c.ownsRow d 93 4 b n i):gw c b:=λk a=>by
 rcases g.2 with⟨rfl,_⟩|⟨l,j,f,rfl,_,h,_⟩
 .cases a
 cases a
 exact⟨⟨_,_,rfl⟩,f,h⟩
theorem qZ(b:World):gw b (.slice none 0 0):=λc a=>by cases a
theorem gw.a{b g:World}{f}(i:gw b f)(k:Below b b g):gw g f:=λc l=>by
 obtain⟨j,h,d⟩:=i c l
 exact⟨j,h,(k.block c (Array.getElem?_eq_some_iff.1 d).1).trans d⟩
theorem gw.b{c:World}{i}(k:gw c i)(a o h):gw (c.setCell ⟨a,o,none⟩ h) i:=λd l=>by
 obtain⟨f,j,g⟩:=k d l
 by_cases e:a=d
 .subst e
  exact⟨f,_,heap_setCell_same c a o _ _ h g⟩
 refine⟨f,j,?_⟩
 rw[<-g]
 simp[World.setCell,Array.getElem?_modify,e]
theorem pD{j:World}{a c e i n d k}(b:j.ownsRow a e i d n k)(h:c<=a):fW c d:=⟨zB b,λf g=>le_trans h (b.lt f g).1⟩
theorem qW(n):fW n (.slice none 0 0):=⟨qQ,λ_ a=>by cases a⟩
theorem fW.a{n c d}(b:fW n d)(h:c<=n):fW c d:=⟨b.1,λf g=>le_trans h (b.2 f g)⟩
def j9(n:Nat)(w:World)(v:Value)(l:List Fct):Prop:=bO w v l/\∀b,v.ownBlock=some b->n<=b
theorem j9.a{n}{b f:World}{d l}(g:Below b b f)(c:j9 n b d l):j9 n f d l:=⟨bO.a g c.1,c.2⟩
theorem F7{q:World}{j k c:Nat}{f:List Fct}(t:bO q (.slice (some ⟨j,0,none⟩) f k) f)(n:c<f.length)(p:Int):bO (q.setCell ⟨j,c*4+3,none⟩ p) (.slice (some ⟨j,0,none⟩) f k) (f.set c ⟨f[c].pred,f[c].a,f[c].b,p⟩):=by
 obtain⟨y,s,hv,v,m⟩:=t;obtain⟨r,w,rfl,u,m⟩:=m.resolve_left (by rintro rfl;simp at n);obtain⟨⟨rfl,rfl⟩,rfl⟩:(j=r/\0=w)/\k=s:=SC;refine⟨_,k,by rw[List.length_set],by rw[List.length_set];exact v,.inr ⟨j,0,rfl,by rw[cF];exact u,?_⟩⟩;intro o x l;by_cases e:c=o
 .subst e;rw[List.getElem?_set_self n] at l;obtain rfl:=Option.some.inj l;obtain⟨d,g,h,i⟩:=m c f[c] (by simp[n]);simp only[zero_add] at d g h i;refine⟨?_,?_,?_,?_⟩
  .simp only[zero_add];rw[cP Q0];exact d
  .simp only[zero_add];rw[cP Q0];exact g
  .simp only[zero_add];rw[cP Q0];exact h
  simp only[zero_add];exact fC i
 rw[List.getElem?_set_ne e] at l;obtain⟨d,g,h,i⟩:=m o x l;simp only[zero_add] at d g h i;refine⟨?_,?_,?_,?_⟩
 .simp only[zero_add];rw[cP Q0];exact d
 .simp only[zero_add];rw[cP Q0];exact g
 .simp only[zero_add];rw[cP Q0];exact h
 simp only[zero_add];rw[cP Q0];exact i
theorem zV{i:World}{c:Option Addr}{a k:Nat}{f:List Fct}(l:bO i (.slice c f a) f)(g:k<=f.length):fD i (.slice c k a) (f.take k):=by
 obtain⟨o,q,h,_,d⟩:=l;simp only[injEq,true_and] at h;obtain⟨rfl,rfl⟩:=h;rcases d with rfl|⟨p,s,rfl,_,d⟩
 .obtain rfl:k=0:=by simpa using g
  cases c with
  |none=>exact .inl ⟨a,rfl,rfl⟩
  |some j=>exact .inr ⟨j,a,rfl,λr t hu=>Us⟩
 refine .inr ⟨_,a,by rw[length_take,Nat.min_eq_left g],tj ?_⟩;intro m n b;rw[List.getElem?_take] at b;split at b
 .exact d m n b
 cases b
theorem zT{n:World}{b:Option Addr}{a k:Nat}{f:List Fct}(r:bO n (.slice b f a) f)(s:k<=f.length)(v:f.length<=a):fD n (.slice (if a=k then b else Option.map (λh=>h.add (k*4)) b) (f.length-k) (a-k)) (f.drop k):=by
 obtain⟨t,u,j,_,c⟩:=r;simp only[injEq,true_and] at j;obtain⟨rfl,rfl⟩:=j;rcases c with rfl|⟨p,g,rfl,_,c⟩
 .obtain rfl:k=0:=by simpa using s
  cases b with
  |none=>exact .inl ⟨a-0,Q1,rfl⟩
  |some o=>
   by_cases e:a=0
   .rw[if_pos e];exact .inr ⟨o,a-0,rfl,λl m hu=>Us⟩
   rw[if_neg e];exact .inr ⟨_,a-0,rfl,λl m hu=>Us⟩
 by_cases e:a=k
 .rw[if_pos e];have q:f.drop k=[]:=List.drop_eq_nil_of_le Q0;rw[q];exact .inr ⟨_,a-k,by rw[show f.length-k=0 by omega];rfl,λl m hu=>Us⟩
 rw[if_neg e];refine .inr ⟨⟨p,g+k*4,none⟩,a-k,by rw[length_drop];simp[Addr.add],tj ?_⟩;intro d h i;rw[List.getElem?_drop] at i;have:=c (k+d) h i;rw[show g+k*4+d*4=g+(k+d)*4 by omega];exact this
theorem kB{h:World}{a p b c d j}(i:h.heap[a]? =some (.cells #[p,b,c,d] j)):fD h (.slice (some ⟨a,0,none⟩) 1 1) [⟨p,b,c,d⟩]:=by
 refine .inr ⟨⟨a,0,none⟩,1,rfl,tj ?_⟩;intro g k f;cases g with
 |zero=>
  obtain rfl:(⟨p,b,c,d⟩:Fct)=k:=by simpa using f
  refine⟨?_,?_,?_,?_⟩<;>simp[cell?,i]
 |succ g=>simp at f
theorem zU(a:World)(p b c d:Int)(g f):fD ((a.alloc (.cells #[p,b,c,d] g)).alloc f) (.slice (some ⟨a,0,none⟩) 1 1) [⟨p,b,c,d⟩]:=
 kB ((heap_alloc_old _ _ Q1).trans (heap_alloc_new a _))
theorem zF(a:World)(f:Nat)(g h i)(j k l m n o:Nat)(c b d)(r:c.length=m)(s:b.length=n)(t:d.length=o)(u:a.cell? f=some (.slice g m j))(v:a.cell? ⟨f,1,none⟩=some (.slice h n k))(w:a.cell? ⟨f,2,none⟩=some (.slice i o l))(z:fD a (.slice g m j) c)(A:fD a (.slice h n k) b)(B:fD a (.slice i o l) d)(y:0<b.length)(x:c.length+b.length+d.length<=500):Calls prog 201 #[.slice (some ⟨f,0,none⟩) 3 3] a λe q=>∃p,e=.returned p/\q.ownsRow a.heap.size 93 4 p (c++b++d).length (cB (c++b++d))/\Below a a q:=by
 subst r s t;exact FY a f g h i j k l c b d u v w z A B y x
theorem Uw(h:p:=by show _=_;rw[length_take,Nat.min_eq_left hpl]):p:=h
theorem Ux(h:p:=by (first|exact(bH _ _).alloc (by simp) _|exact((bH _ _).alloc (by simp) _).drew)):p:=h
theorem Uy(h:p:=by first|(simp;done)|omega|(simp;omega)):p:=h
theorem Yf(h:p:=by first|exact Below.refl _ _|exact(Below.refl _ _).drew|exact hk|exact hk.drew|exact(bH _ _)|exact(bH _ _).drew|exact((Below.refl _ _).drew).alloc (le_refl _) _|exact hk.alloc hk.size _|exact(hk.alloc hk.size _).drew|exact hk.drew.alloc hk.size _|exact(bH _ _).alloc Q1 _|exact((bH _ _).alloc Q1 _).drew|exact(((Below.refl _ _).drew).alloc (Nat.le_refl _) _).alloc Q1 _|exact((bH _ _).drew).alloc Q1 _):p:=h
theorem zu(d:World)(aK ah h f)(p a b v:Int)(aE:bR d aK h)(aB:bO d ah f)(az:eQ ah):Calls prog 157 #[aK,ah,.agg #[p,a,b,v]] d λe w'=>∃s,e=.returned (.tuple #[s,.bool (jG h f ⟨p,a,b,v⟩).2.1,.int .i64 (jG h f ⟨p,a,b,v⟩).2.2])/\bO w' s (jG h f ⟨p,a,b,v⟩).1/\fW d s/\gw w' s/\Below d d w':=by
 have ac:=lp_ aE;have HF:=lf_ aB;obtain⟨r,m,rfl,bs,a1⟩:=aB
 obtain⟨aA,br⟩:f.length<=m/\(r=none->m=0):=by
  obtain⟨bn,bA,bo,e,x,A⟩:=az;simp only[injEq] at e;obtain⟨rfl,rfl,rfl⟩:=e;exact⟨x,A⟩
 clear az;by_cases h0:ii h f ⟨p,a,b,v⟩=0
 .obtain⟨x,A⟩:=z8 h0;have HS:=hid_ (oP x);have HX:=hid_ (mC (eR x).1 A);have HSO:=hid_ ((cG x).sorted);have bx:=mB x;have e:jG h f ⟨p,a,b,v⟩=(cy (bJ h) ⟨p,a,b,v⟩ f,dR (bJ h) ⟨p,a,b,v⟩ f,0):=by simp[jG,h0]
  rw[e];clear e;cases hg:cd f (bL ⟨p,a,b,v⟩) with
  |none=>
   obtain⟨L,M⟩:=FR (K:=bJ h) HSO hg;rw[L,M];have hpl:=zX f (bL ⟨p,a,b,v⟩)
   have ad:Hid (∀w',Below d d w'->Calls prog 200 #[.slice r f m,.agg #[p,a,b,v],.func (.func 181) #[] #[]] w' (λe q=>e=.returned (.tuple #[.int .i64 (dK f (bL ⟨p,a,b,v⟩)),.bool false])/\Below w' w' q)):=λw' hb=>by
    exact abb
   clear L M hg x A HS HX HSO;generalize dK f (bL ⟨p,a,b,v⟩)=c at*;have a3:(0:Int)<=(c:Int):=Q0;have a4:(c:Int)<=(f.length:Int):=Q0;have bt:(c:Int)<=(m:Int):=Q0;have bu:(f.length:Int)<=(m:Int):=Q0;go_enter func157,ntmps157
   go_wp2_with(first
    |(go_at_call 199;refine mo_ (pA _ _ _ h f _ _ _ _ (ac _ (bH _ _)) (HF _ (bH _ _))) λq l=>?_;obtain⟨u,F,G,w⟩:=pC l;have z:d.heap.size<q.heap.size:=lt_of_lt_of_le Q1 l.size;have t:Hid (Below d d q):=(bH _ _).trans (l.mono Q1);clear l)
    |(go_at_call 200;refine mo_ (ad _ t.out) λg j=>?_;replace u:=(bF j z).trans u;replace F:=(bF j z).trans F;replace G:=(bF j z).trans G;replace w:=(bF j z).trans w;have o:d.heap.size<g.heap.size:=lt_of_lt_of_le z j.size;have i:Hid (Below d d g):=t.out.trans (j.mono t.out.size);clear j))
   by_cases S:m=c
   .have ae:Hid (fD g (.slice r c c) (f.take c)):=by have:=zV (k:=c) (HF _ i.out) hpl;rw[S] at this;exact this
    have V:Hid (fD g (.slice r (f.length-c) 0) (f.drop c)):=by have:=zT (k:=c) (HF _ i.out) hpl aA;rw[if_pos S,S,Nat.sub_self] at this;exact this
    have X:Hid ((f.take c).length=c):=Uw;have Y:Hid ((f.drop c).length=f.length-c):=by show _=_;rw[length_drop]
    have Z:Hid (0<[(⟨p,a,b,v⟩:Fct)].length):=by show _<_;simp
    have aa:Hid ((f.take c).length+[(⟨p,a,b,v⟩:Fct)].length+(f.drop c).length<=500):=by show _<=_;simp;omega
    have I:Hid (∀w',Below g g w'->(λw'=>Below g g w'/\w'.cell? d=some (.int .i64 p)/\w'.cell? ⟨d,1,none⟩=some (.int .i64 a)/\w'.cell? ⟨d,2,none⟩=some (.int .i64 b)/\w'.cell? ⟨d,3,none⟩=some (.int .i64 v)) w'):=λw' n=>⟨n,(bF n o).trans u,(bF n o).trans F,(bF n o).trans G,(bF n o).trans w⟩
    go_region_held3 (λw'=>Below g g w'/\w'.cell? d=some (.int .i64 p)/\w'.cell? ⟨d,1,none⟩=some (.int .i64 a)/\w'.cell? ⟨d,2,none⟩=some (.int .i64 b)/\w'.cell? ⟨d,3,none⟩=some (.int .i64 v))
     ((refine I _ ?_;exact Yf))
     (first
      |(go_at_call 201;refine Calls.mono (zF _ (g.heap.size+1) r (some ⟨g,0,none⟩) r c 1 0 c 1 (f.length-c) (f.take c) [⟨p,a,b,v⟩] (f.drop c) X rfl Y ?g1 ?g2 ?g3 ?g4 ?g5 ?g6 Z aa.out) ?_;(case g1=>simp[go_sem]);(case g2=>simp[go_sem]);(case g3=>simp[go_sem]);(case g4=>exact ae.out.a Ux);(case g5=>first|exact zU g p a b v 93 _|exact(piece_new g p a b v 93 _).lasts ((Below.refl _ _).drew));(case g6=>exact V.out.a Ux);rintro e O ⟨ap,rfl,N,y⟩;have hk:Below g g O:=Below.trans Ux (y.mono Uy);have ab:Hid (∃C,d.heap.size<=C/\O.ownsRow C 93 4 ap (f.take c++[(⟨p,a,b,v⟩:Fct)]++f.drop c).length (cB (f.take c++[(⟨p,a,b,v⟩:Fct)]++f.drop c))):=⟨_,le_trans i.out.size (Below.size (B:=g.heap.size) (w:=g) Ux),N⟩;clear y N))
    clear I;go_wp2_with fail;go_ret3;obtain⟨C,ai,E⟩:=ab.out;exact⟨_,rfl,lz E RD,pD E ai,tt E,i.out.trans (hk.mono i.out.size)⟩
   have ae:=hid_ (zV (HF _ i.out) hpl);have V:Hid (fD g (.slice (Option.map (λaq=>aq.add (c*4)) r) (f.length-c) (m-c)) (f.drop c)):=by have:=zT (k:=c) (HF _ i.out) hpl aA;rw[if_neg S] at this;exact this
   have X:Hid ((f.take c).length=c):=Uw;have Y:Hid ((f.drop c).length=f.length-c):=by show _=_;rw[length_drop]
   have Z:Hid (0<[(⟨p,a,b,v⟩:Fct)].length):=by show _<_;simp
   have aa:Hid ((f.take c).length+[(⟨p,a,b,v⟩:Fct)].length+(f.drop c).length<=500):=by show _<=_;simp;omega
   have I:Hid (∀w',Below g g w'->(λw'=>Below g g w'/\w'.cell? d=some (.int .i64 p)/\w'.cell? ⟨d,1,none⟩=some (.int .i64 a)/\w'.cell? ⟨d,2,none⟩=some (.int .i64 b)/\w'.cell? ⟨d,3,none⟩=some (.int .i64 v)) w'):=λw' n=>⟨n,(bF n o).trans u,(bF n o).trans F,(bF n o).trans G,(bF n o).trans w⟩
   go_region_held3 (λw'=>Below g g w'/\w'.cell? d=some (.int .i64 p)/\w'.cell? ⟨d,1,none⟩=some (.int .i64 a)/\w'.cell? ⟨d,2,none⟩=some (.int .i64 b)/\w'.cell? ⟨d,3,none⟩=some (.int .i64 v))
    ((refine I _ ?_;exact Yf))
    (first
     |(go_at_call 201;refine Calls.mono (zF _ (g.heap.size+1) r (some ⟨g,0,none⟩) (Option.map (λaq=>aq.add (c*4)) r) m 1 (m-c) c 1 (f.length-c) (f.take c) [⟨p,a,b,v⟩] (f.drop c) X rfl Y ?g1 ?g2 ?g3 ?g4 ?g5 ?g6 Z aa.out) ?_;(case g1=>simp[go_sem]);(case g2=>simp[go_sem]);(case g3=>simp[go_sem]);(case g4=>exact ae.out.a Ux);(case g5=>first|exact zU g p a b v 93 _|exact(piece_new g p a b v 93 _).lasts ((Below.refl _ _).drew));(case g6=>exact V.out.a Ux);rintro e O ⟨ap,rfl,N,y⟩;have hk:Below g g O:=Below.trans Ux (y.mono Uy);have ab:Hid (∃C,d.heap.size<=C/\O.ownsRow C 93 4 ap (f.take c++[(⟨p,a,b,v⟩:Fct)]++f.drop c).length (cB (f.take c++[(⟨p,a,b,v⟩:Fct)]++f.drop c))):=⟨_,le_trans i.out.size (Below.size (B:=g.heap.size) (w:=g) Ux),N⟩;clear y N))
   clear I;go_wp2_with fail;go_ret3;obtain⟨C,ai,E⟩:=ab.out;exact⟨_,rfl,lz E RD,pD E ai,tt E,i.out.trans (hk.mono i.out.size)⟩
  |some s=>
   obtain⟨U,aF,am⟩:=zJ HSO hg;obtain⟨L,M⟩:=FS (K:=bJ h) HSO U aF;rw[L,M];obtain⟨J,an,H,hv,aj,aZ⟩:=ly (HF d (Below.refl _ _)) U;obtain⟨rfl,rfl⟩:r=some ⟨J,an,none⟩/\m=H:=SC;obtain⟨_,_,_,ao⟩:=aZ;obtain⟨k,al,a7⟩:∃c:Nat,c<h.length/\p=(c:Int):=fd.1 (by have:=A;simp only[cw,and_eq_true] at this;exact this.1);subst a7;obtain⟨bB,bC,rfl,bw,aG⟩:=aE;obtain⟨bd,bD,rfl,aY,aJ⟩:=aG.resolve_left (by rintro rfl;simp at al);obtain⟨_,_,bb⟩:=aJ k h[k] (by simp[al]);have Q:=hid_ (zP al);have aw:Hid (cp (bJ h (k:Int)) v=0):=(iC A).v
   have av:Hid (cp (bJ h (k:Int)) s=0):=by
    have aL:=iS (cG x) hg;rw[<-kC (iC A)] at aL;exact aL
   rw[am] at ao;rw[am]
   have au:Hid (lE h[k].kind s v=dv (bJ h (k:Int)) s v):=by
    show _=_;rw[Q.out,lE,if_pos];rw[ij,if_pos (by rw[<-Q.out];exact av.out)];rw[<-Q.out];exact aw.out
   rw[<-au.out]
   have ad:Hid (∀w',Below d d w'->Calls prog 200 #[.slice (some ⟨J,an,none⟩) f m,.agg #[k,a,b,v],.func (.func 181) #[] #[]] w' (λe q=>e=.returned (.tuple #[.int .i64 (dK f (bL ⟨(k:Int),a,b,v⟩)),.bool true])/\Below w' w' q)):=λw' hb=>by
    have:=tu w' _ f (k:Int) a b v (HF _ hb) HS HX HSO.out;rw[hg] at this;exact this
   clear L M hg x A HS HX HSO aF au aw av Q aJ aG hv am a1;have hpl:(k:Int)<(h.length:Int):=Q0;have bv:(0:Int)<=(k:Int):=Q0;generalize h[k].kind=be at*;generalize dK f (bL ⟨(k:Int),a,b,v⟩)=c at*;have a3:(0:Int)<=(c:Int):=Q0;have a4:(c:Int)<(f.length:Int):=Q0;have a6:0<f.length:=Q0;go_enter func157,ntmps157
   go_wp2_with(first
    |(go_at_call 199;refine mo_ (pA _ _ _ h f _ _ _ _ (ac _ (bH _ _)) (HF _ (bH _ _))) λq l=>?_;obtain⟨u,F,G,w⟩:=pC l;have z:d.heap.size<q.heap.size:=lt_of_lt_of_le Q1 l.size;have t:Hid (Below d d q):=(bH _ _).trans (l.mono Q1);clear l)
    |(go_at_call 200;refine mo_ (ad _ t.out) λg j=>?_;replace u:=(bF j z).trans u;replace w:=(bF j z).trans w;have o:d.heap.size<g.heap.size:=lt_of_lt_of_le z j.size;have i:Hid (Below d d g):=t.out.trans (j.mono t.out.size);clear j))
   have bg:J<g.heap.size:=Q0;have bh:bd<g.heap.size:=Q0;have aQ:=lo_ o u;have aR:=lo_ o w;have af:=lo_ bg ((bF i aj).trans ao);have aS:=lo_ bh ((bF i aY).trans bb);refine dz g.heap.size SI SI ?_;repeat(go_big_quiet_step ((go_at_call 202;exact dy (Hx _ _ _ _))))
   refine wpQuiet_nil ?_;rintro aN ⟨⟨bj,hk⟩,a9⟩;obtain rfl:aN=bj:=a9;clear aQ aR af aS;have P:=hid_ (i.out.trans (hk.mono i.out.size));clear u F G w;go_wp2_with fail;refine(FX aN _ f (HF _ P.out) a6 Q0).mono ?_;rintro e bk ⟨bE,rfl,T,ay⟩;have ar:=hid_ (P.out.trans (ay.mono P.out.size));have W:=hid_ (lz T Q0);rcases T.2 with⟨_,bz⟩|⟨D,H,bp,rfl,a2,aD,a5,_⟩
   .omega
   have aI:=le_trans P.out.size a2;have aX:D≠J:=Q0;obtain⟨aT,bc,aU,aH,_,a0⟩:=ly W U;obtain⟨⟨rfl,rfl⟩,rfl⟩:(D=aT/\0=bc)/\H=aU:=by simpa using aH
   obtain⟨_,_,_,ax⟩:=a0;simp only[zero_add] at ax;have aV:bk.frozen? ⟨D,c*4+3,none⟩=false:=by simp[World.frozen?,aD]
   have aM:=(bF ar aj).trans ao;have aP:=hid_ (tt T);clear T ay aH aD;go_wp2_with fail;refine lA (λR=>Below d d R/\bO R (.slice (some ⟨D,0,none⟩) f H) (f.set c ⟨f[c].pred,f[c].a,f[c].b,lE be s v⟩)/\R.cell? ⟨J,an+c*4+3,none⟩=some (.int .i64 s)/\Hid (gw R (.slice (some ⟨D,0,none⟩) f H))) ⟨ar.out.setCell (p:=⟨D,c*4+3,none⟩) aI _,F7 W U _,by rw[cb aX];exact aM,aP.out.b D (c*4+3) _⟩ ?_;rintro ag ⟨y,aC,bi,a8⟩;have aO:=hid_ λw' (hb:Below ag ag w')=>bO.a hb aC;have bf:=lt_of_lt_of_le aj y.size;clear aC W ax aV aM;have af:=lo_ bf bi;refine dz ag.heap.size SI SI ?_;repeat(go_big_quiet_step (fail))
   refine wpQuiet_nil ?_;rintro bl ⟨⟨bm,ak⟩,ba⟩;obtain rfl:bl=bm:=ba;clear af;go_wp2_with fail;go_ret3;exact⟨_,rfl,aO _ ak,⟨⟨_,_,H,rfl,a5,λaW=>by cases aW⟩,λb hb=>by cases hb;exact aI⟩,a8.out.a ak,y.trans (ak.mono y.size)⟩
 have e:jG h f ⟨p,a,b,v⟩=([],false,ii h f ⟨p,a,b,v⟩):=by simp[jG,h0]
 rw[e];have bq:(ii h f ⟨p,a,b,v⟩==0)=false:=Q8;go_enter func157,ntmps157;go_wp2_with(go_at_call 199;refine mo_ (pA _ _ _ h f _ _ _ _ (ac _ (bH _ _)) (HF _ (bH _ _))) λq l=>?_;have t:Hid (Below d d q):=(bH _ _).trans (l.mono Q1);clear l);go_ret3;exact⟨_,rfl,ie _,qW _,qZ _,t.out⟩
theorem zt(a:World)(j i d f)(p b c h:Int)(s:bR a j d)(r:bO a i f)(q:eQ i):Calls prog 157 #[j,i,.agg #[p,b,c,h]] a λe k=>∃g,e=.returned (.tuple #[g,.bool (jG d f ⟨p,b,c,h⟩).2.1,.int .i64 (jG d f ⟨p,b,c,h⟩).2.2])/\bO k g (jG d f ⟨p,b,c,h⟩).1/\fW a g/\Below a a k:=
 (zu a j i d f p b c h s r q).mono λ_ _ ⟨g,l,m,n,_,o⟩=>⟨g,l,m,n,o⟩
def eC(x:Fct)(f:List Fct):Bool:=f.any λy=>decide (bL x<=bL y)
theorem zN(a b f):eC a (b::f)=(decide (bL a<=bL b)||eC a f):=rfl
theorem zx{K:Int->Int}{a}:∀{f:List Fct} (c:List Fct),eC a f=true->cy K a (f++c)=cy K a f++c/\dR K a (f++c)=dR K a f
 |[],c,d=>by cases d
 |y::f,c,d=>by
  rw[cons_append,cy,cy,dR,dR]
  by_cases e:bL y=bL a
  .rw[if_pos e,if_pos e,if_pos e,if_pos e]
   exact⟨rfl,rfl⟩
  rw[if_neg e,if_neg e,if_neg e,if_neg e]
  by_cases b:bL a<bL y
  .rw[if_pos b,if_pos b,if_pos b,if_pos b]
   exact⟨rfl,rfl⟩
  rw[if_neg b,if_neg b,if_neg b,if_neg b]
  have g:eC a f=true:=by
   rw[zN] at d
   have:decide (bL a<=bL y)=false:=RD
   rw[this,Bool.false_or] at d
   exact d
  obtain⟨h,i⟩:=zx c g
  rw[h,i]
  exact⟨rfl,rfl⟩
theorem tg{K:Int->Int}{b}:∀{f:List Fct} (a:List Fct),eC b f=false->cy K b (f++a)=f++cy K b a/\dR K b (f++a)=dR K b a
 |[],a,_=>⟨rfl,rfl⟩
 |y::f,a,c=>by
  rw[zN,Bool.or_eq_false_iff] at c
  have h:¬bL b<=bL y:=by simpa using c.1
  obtain⟨d,g⟩:=tg (K:=K) a c.2
  rw[cons_append,cy,dR,if_neg Q0,if_neg Q0,if_neg Q0,if_neg Q0,d,g]
  exact⟨rfl,rfl⟩
def eo(K:Int->Int)(x:Fct)(f:List Fct):List Fct:=if eC x f then cy K x f else f
def gK(K:Int->Int)(x:Fct)(f:List Fct):Bool:=if eC x f then dR K x f else false
theorem tp(a b f):eC a (f++[b])=(eC a f||decide (bL a<=bL b)):=by simp[eC]
theorem Gt{b:Int->Int}{a c f}(d:eC a f=true):eC a (f++[c])=true/\eo b a (f++[c])=eo b a f++[c]/\gK b a (f++[c])=gK b a f:=by
 have g:eC a (f++[c])=true:=by rw[tp,d];rfl
 obtain⟨h,i⟩:=zx (K:=b) [c] d;refine⟨g,?_,?_⟩
 .unfold eo;rw[if_pos g,if_pos d,h]
 unfold gK;rw[if_pos g,if_pos d,i]
theorem UN(h:p:=by rw[tp,h];simp;omega):p:=h
theorem UO(h:p:=by rw[h1];simp):p:=h
theorem UP(h:p:=by rw[h];simp):p:=h
theorem Gu{c:Int->Int}{a b f}(h:eC a f=false)(d:bL b<bL a):eC a (f++[b])=false/\eo c a (f++[b])=eo c a f++[b]/\gK c a (f++[b])=gK c a f:=by
 have h1:eC a (f++[b])=false:=UN;refine⟨h1,?_,?_⟩
 .unfold eo;rw[if_neg UO,if_neg UP]
 unfold gK;rw[if_neg UO,if_neg UP]
theorem Gw{g:Int->Int}{d c f}(h:eC d f=false)(j:bL c=bL d):eC d (f++[c])=true/\eo g d (f++[c])=eo g d f++[⟨c.pred,c.a,c.b,dv (g d.pred) c.val d.val⟩]/\gK g d (f++[c])=(dv (g d.pred) c.val d.val != c.val):=by
 have i:eC d (f++[c])=true:=UN;obtain⟨k,l⟩:=tg (K:=g) [c] h;refine⟨i,?_,?_⟩
 .unfold eo;rw[if_pos i,if_neg UP,k,cy,if_pos j]
 unfold gK;rw[if_pos i,l,dR,if_pos j]
theorem Gx{c:Int->Int}{a b f}(h:eC a f=false)(g:bL a<bL b):eC a (f++[b])=true/\eo c a (f++[b])=eo c a f++[a]++[b]/\gK c a (f++[b])=true:=by
 have d:eC a (f++[b])=true:=UN;obtain⟨i,j⟩:=tg (K:=c) [b] h;refine⟨d,?_,?_⟩
 .unfold eo;rw[if_pos d,if_neg UP,i,cy,if_neg Q0,if_pos g];simp
 unfold gK;rw[if_pos d,j,dR,if_neg Q0,if_pos g]
theorem F2{K:Int->Int}{a f}(b:eC a f=true):eo K a f=cy K a f/\gK K a f=dR K a f:=by
 unfold eo gK;rw[if_pos b,if_pos b];exact⟨rfl,rfl⟩
theorem F3{K:Int->Int}{a f}(h:eC a f=false):cy K a f=eo K a f++[a]/\dR K a f=true:=by
 obtain⟨b,c⟩:=tg (K:=K) [] h;rw[append_nil] at b c;unfold eo;rw[if_neg UP,b,c];exact⟨rfl,rfl⟩
theorem Ge{f b}(j:fV f){k}(i:k<f.length)(d:eC b (f.take k)=true):bL f[k]≠bL b:=by
 obtain⟨n,l,c⟩:=List.any_eq_true.1 d;obtain⟨a,g,rfl⟩:=List.mem_iff_getElem.1 l;rw[List.getElem_take] at c;have h:a<k:=by simp at g;omega
 have:=List.pairwise_iff_getElem.1 j a k Q0 i h;have m:bL b<=bL f[a]:=by simpa using c
 omega
theorem zS(b:Int->Int)(c f):(eo b c f).length<=f.length+1:=by
 have:∀a:List Fct,(cy b c a).length<=a.length+1:=by
  intro a;induction a with
  |nil=>simp[cy]
  |cons d a ih=>
   rw[cy];split
   .simp
   split
   .simp
   simp;exact ih
 unfold eo;split
 .exact this f
 omega
theorem cg{b i:World}{c e g n h j}(m:b.ownsRow c e g h n j)(r:Below b b i):i.ownsRow c e g h n j:=by
 obtain⟨o,a⟩:=m;refine⟨o,?_⟩;rcases a with a|⟨d,k,l,a,p,f,q⟩
 .exact .inl a
 exact .inr ⟨d,k,l,a,p,(r.block d (Array.getElem?_eq_some_iff.1 f).1).trans f,q⟩
theorem vY{h:World}{f e g n d i}(l:h.ownsRow f e g d n i){b o u}(s:∀a,d.ownBlock=some a->a≠b):(h.setCell ⟨b,o,none⟩ u).ownsRow f e g d n i:=by
 obtain⟨m,c⟩:=l;refine⟨m,?_⟩;rcases c with c|⟨a,j,k,c,p,q,r⟩
 .exact .inl c
 refine .inr ⟨a,j,k,c,p,?_,r⟩;have:a≠b:=s a (by rw[c];rfl);rw[Below.heap_setCell _ _ _ _ this];exact q
theorem Gp{c:World}{d e h n b i}(f:c.ownsRow d e h b n i):∀a,b.ownBlock=some a->a<c.heap.size:=λa g=>(f.lt a g).2
theorem UQ(h:p:=by rw[bF (bH _ _) (by omega)];exact k2r):p:=h
theorem UR(h:p:=by rw[bF (bH _ _) sxr];exact c0):p:=h
theorem US(h:p:=by rw[bF (bH _ _) sxr];exact c1):p:=h
theorem UT(h:p:=by rw[bF (bH _ _) sxr];exact c2):p:=h
theorem UU(h:p:=by rw[bF (bH _ _) sxr];exact c3):p:=h
theorem UV(h:p:=by first|exact HX.out|exact HSY.out):p:=h
theorem UW(h:p:=by have:=sx0;omega):p:=h
theorem UX(h:p:=by have:=sx2;omega):p:=h
theorem UY(h:p:=by have:=sx3;simp;omega):p:=h
theorem UZ(h:p:=by have:=sx3;omega):p:=h
theorem U0(h:p:=by rw[HT.out.2.1];exact hown5):p:=h
theorem U3(h:p:=by rw[HT.out.2.2]):p:=h
theorem U4(h:p:=by rw[HT.out.1]):p:=h
theorem adQ(h:p:=by
 go_wp2_with fail
 refine lA (λW=>w.heap.size<W.heap.size/\wr.heap.size<W.heap.size/\Below (w.heap.size+1) (w.alloc (.cells #[pk,a,b,v] 93)) W/\W.ownsRow (w.heap.size+1) 93 4 vv O (cB O)/\W.frozen? ⟨wr,3,none⟩=false/\W.cell? ⟨pb,po+pk*3+2,none⟩=some (.int .i64 qk)/\W.cell? w=some (.int .i64 (pk:Int))/\W.cell? ⟨w,1,none⟩=some (.int .i64 a)/\W.cell? ⟨w,2,none⟩=some (.int .i64 b)/\W.cell? ⟨w,3,none⟩=some (.int .i64 v)/\W.cell? wr=some (.int .i64 yp)/\W.cell? ⟨wr,1,none⟩=some (.int .i64 ya)/\W.cell? ⟨wr,2,none⟩=some (.int .i64 yb)/\W.cell? ⟨wr,3,none⟩=some (.int .i64 yv)) ⟨RD,Q1,hbr.alloc Q0 _,cg HOW (bH _ _),Re,UQ,UR,US,UT,UU,Re,Re,Re,Re⟩ ?_
 rintro W0 ⟨sx0,sy0,hx0,ho0,yf0,k20,x00,x10,x20,x30,y00,y10,y20,y30⟩
 have HO0:=hid_ ho0
 clear ho0 HOW t0 t1 t2 t3 c0 c1 c2 c3 k2r
 go_wp2_with fail
 have Lx0:=lo_ sx0 x00
 have Lx1:=lo_ sx0 x10
 have Lx2:=lo_ sx0 x20
 have Lx3:=lo_ sx0 x30
 have Ly0:=lo_ sy0 y00
 have Ly1:=lo_ sy0 y10
 have Ly2:=lo_ sy0 y20
 have Ly3:=lo_ sy0 y30
 refine dz W0.heap.size SI SI ?_
 repeat(go_big_quiet_step ((go_at_call 145;exact dy (mF _ _ _ _ _ UV))))
 refine wpQuiet_nil ?_
 rintro w2 ⟨⟨w2',hq0⟩,hw0⟩
 obtain rfl:w2=w2':=hw0
 clear Lx0 Lx1 Lx2 Lx3 Ly0 Ly1 Ly2 Ly3
 have x02:=(bF hq0 sx0).trans x00
 have x12:=(bF hq0 sx0).trans x10
 have x22:=(bF hq0 sx0).trans x20
 have x32:=(bF hq0 sx0).trans x30
 have y02:=(bF hq0 sy0).trans y00
 have y12:=(bF hq0 sy0).trans y10
 have y22:=(bF hq0 sy0).trans y20
 have y32:=(bF hq0 sy0).trans y30
 have sx2:=lt_of_lt_of_le sx0 hq0.size
 have sy2:=lt_of_lt_of_le sy0 hq0.size
 have HO2:=hid_ (cg HO0 hq0)
 have hx2:=hx0.trans (hq0.mono UW)
 clear x00 x10 x20 x30 y00 y10 y20 y30 HO0
 go_wp2_with fail
 have Lx0:=lo_ sx2 x02
 have Lx1:=lo_ sx2 x12
 have Lx2:=lo_ sx2 x22
 have Lx3:=lo_ sx2 x32
 have Ly0:=lo_ sy2 y02
 have Ly1:=lo_ sy2 y12
 have Ly2:=lo_ sy2 y22
 have Ly3:=lo_ sy2 y32
 refine dz w2.heap.size SI SI ?_
 repeat(go_big_quiet_step ((go_at_call 145;exact dy (mF _ _ _ _ _ UV))))
 refine wpQuiet_nil ?_
 rintro w3 ⟨⟨w3',hq2⟩,hw2⟩
 obtain rfl:w3=w3':=hw2
 clear Lx0 Lx1 Lx2 Lx3 Ly0 Ly1 Ly2 Ly3
 have y03:=(bF hq2 sy2).trans y02
 have y13:=(bF hq2 sy2).trans y12
 have y23:=(bF hq2 sy2).trans y22
 have y33:=(bF hq2 sy2).trans y32
 have sx3:=lt_of_lt_of_le sx2 hq2.size
 have sy3:=lt_of_lt_of_le sy2 hq2.size
 have HO3:=hid_ (cg HO2 hq2)
 have hx3:=hx2.trans (hq2.mono UX)
 clear y02 y12 y22 y32 HO2
 go_wp2_with(at_builtin;refine jo _ rfl _ _ rfl (w.heap.size+1) vv (O) [⟨yp,ya,yb,yv⟩] (cg HO3 (bH _ _)) rfl _ rfl (kB (heap_alloc_new _ _)) RD UY ?_;intro v5 w5 hown5 hgr5;have hx5:Below (w.heap.size+1) (w.alloc (.cells #[pk,a,b,v] 93)) w5:=gY (hx3.alloc UZ _) (cg HO3 (bH _ _)) hgr5 UY)
 go_roundw
 case rel=>exact⟨k+1,_,rfl,Q0,Rv,U4,U3,U0,hx5⟩
 simp[intOf];omega):p:=h
theorem aeB(h:p:=by
 go_roundw
 case rel=>exact⟨k+1,_,rfl,Q0,Rv,U4,U3,U0,hx5⟩
 exact adT):p:=h
theorem vR(w:World)(ak ad c f p a b v)(aG:bR w ak c)(af:bO w ad f)(m:bW c f=0)(T:cw c ⟨p,a,b,v⟩=true):Calls prog 98 #[ak,ad,.agg #[p,a,b,v]] w λe ao=>∃Y,e=.returned (.tuple #[Y,.bool (dR (bJ c) ⟨p,a,b,v⟩ f)])/\bO ao Y (cy (bJ c) ⟨p,a,b,v⟩ f)/\fW w Y/\Below w w ao:=by
 have D:=hid_ af;have E:=hid_ (oP m);have HX:=hid_ (mC (eR m).1 T);have F:=hid_ ((cG m).sorted);have a4:=mB m;obtain⟨pk,J,B⟩:∃k:Nat,k<c.length/\p=(k:Int):=fd.1 (by have:=T;simp only[cw,and_eq_true] at this;exact this.1);subst B;obtain⟨a5,a6,rfl,a3,ai⟩:=aG;obtain⟨ax,ay,rfl,aX,aC⟩:=af;obtain⟨pb,po,rfl,aB,aj⟩:=ai.resolve_left (by rintro rfl;simp at J);obtain⟨_,_,aM⟩:=aj pk c[pk] (by simp[J]);have ar:=hid_ (Gk (eR m).2.1 J);have aa:=hid_ (zP J);have a2:(pk:Int)<(c.length:Int):=Q0;have a1:(0:Int)<=(pk:Int):=Q0;clear ai aj aC m T;generalize c[pk].kind=qk at*;go_enter func98,ntmps98;go_wp2_with fail;go_loopw [8,9,10,11] (λaR aS aP aQ wr=>∃(k:Nat) (vv:Value),vv=aR/\k<=f.length/\aQ=.int .i64 k/\aS=.bool (eC ⟨(pk:Int),a,b,v⟩ (f.take k))/\aP=.bool (gK (bJ c) ⟨(pk:Int),a,b,v⟩ (f.take k))/\wr.ownsRow (w.heap.size+1) 93 4 vv (eo (bJ c) ⟨(pk:Int),a,b,v⟩ (f.take k)).length (cB (eo (bJ c) ⟨(pk:Int),a,b,v⟩ (f.take k)))/\Below (w.heap.size+1) (w.alloc (.cells #[pk,a,b,v] 93)) wr) (λ_ _ _ aL _=>f.length-(intOf aL).toNat)
 case atStart=>exact⟨0,_,rfl,zero_le _,rfl,rfl,rfl,World.ownsRow_nil _ _ _ _,by have:=Below.refl (w.alloc (.cells #[pk,a,b,v] 93)).heap.size (w.alloc (.cells #[pk,a,b,v] 93));simpa using this⟩
 obtain⟨k,vv,aI,a0,rfl,rfl,rfl,i,hbr⟩:=hrel;subst aI;have U:=(bH _ _).trans (hbr.mono Q1);have c0:wr.cell? w=some (.int .i64 (pk:Int)):=Up;have c1:wr.cell? ⟨w,1,none⟩=some (.int .i64 a):=Up;have c2:wr.cell? ⟨w,2,none⟩=some (.int .i64 b):=Up;have c3:wr.cell? ⟨w,3,none⟩=some (.int .i64 v):=Up;have sxr:w.heap.size<wr.heap.size:=SB;have k2r:=(bF U aB).trans aM;by_cases G:k<f.length
 .obtain⟨ac,aO,aw,hv,aA,ae⟩:=ly D G;obtain⟨rfl,rfl⟩:ax=some ⟨ac,aO,none⟩/\ay=aw:=SC;obtain⟨t0,t1,t2,t3⟩:=m7.a w wr ac _ _ U aA ae;have HSY:=hid_ (E _ (getElem_mem G));have aZ:(k:Int)<(f.length:Int):=Q0;have aY:(0:Int)<=(k:Int):=Q0;have az:(eo (bJ c) ⟨(pk:Int),a,b,v⟩ (f.take k)).length<=126:=le_trans (zS _ _ _) RD;have ag:=Gp i;have x:=hid_ (List.take_succ_eq_append_getElem G);have q:Hid (eC ⟨(pk:Int),a,b,v⟩ (f.take k)=true->bL f[k]≠bL ⟨(pk:Int),a,b,v⟩/\eC ⟨(pk:Int),a,b,v⟩ (f.take (k+1))=true/\eo (bJ c) ⟨(pk:Int),a,b,v⟩ (f.take (k+1))=eo (bJ c) ⟨(pk:Int),a,b,v⟩ (f.take k)++[f[k]]/\gK (bJ c) ⟨(pk:Int),a,b,v⟩ (f.take (k+1))=gK (bJ c) ⟨(pk:Int),a,b,v⟩ (f.take k)):=λh=>⟨Ge F G h,by rw[x.out];exact Gt h⟩;have r:Hid (eC ⟨(pk:Int),a,b,v⟩ (f.take k)=false->bL f[k]<bL ⟨(pk:Int),a,b,v⟩->eC ⟨(pk:Int),a,b,v⟩ (f.take (k+1))=false/\eo (bJ c) ⟨(pk:Int),a,b,v⟩ (f.take (k+1))=eo (bJ c) ⟨(pk:Int),a,b,v⟩ (f.take k)++[f[k]]/\gK (bJ c) ⟨(pk:Int),a,b,v⟩ (f.take (k+1))=gK (bJ c) ⟨(pk:Int),a,b,v⟩ (f.take k)):=λh l=>by rw[x.out];exact Gu h l
  have s:Hid (eC ⟨(pk:Int),a,b,v⟩ (f.take k)=false->bL f[k]=bL ⟨(pk:Int),a,b,v⟩->eC ⟨(pk:Int),a,b,v⟩ (f.take (k+1))=true/\eo (bJ c) ⟨(pk:Int),a,b,v⟩ (f.take (k+1))=eo (bJ c) ⟨(pk:Int),a,b,v⟩ (f.take k)++[⟨f[k].pred,f[k].a,f[k].b,dv qk f[k].val v⟩]/\gK (bJ c) ⟨(pk:Int),a,b,v⟩ (f.take (k+1))=(dv qk f[k].val v != f[k].val)):=λh l=>by rw[x.out,<-aa.out];exact Gw h l
  have t:Hid (eC ⟨(pk:Int),a,b,v⟩ (f.take k)=false->bL ⟨(pk:Int),a,b,v⟩<bL f[k]->eC ⟨(pk:Int),a,b,v⟩ (f.take (k+1))=true/\eo (bJ c) ⟨(pk:Int),a,b,v⟩ (f.take (k+1))=eo (bJ c) ⟨(pk:Int),a,b,v⟩ (f.take k)++[⟨(pk:Int),a,b,v⟩]++[f[k]]/\gK (bJ c) ⟨(pk:Int),a,b,v⟩ (f.take (k+1))=true):=λh l=>by rw[x.out];exact Gx h l
  clear ae hv D E F x aa;generalize f[k]=aV at*;obtain⟨yp,ya,yb,yv⟩:=aV;generalize eo (bJ c) ⟨(pk:Int),a,b,v⟩ (f.take k)=O at*;generalize gK (bJ c) ⟨(pk:Int),a,b,v⟩ (f.take k)=aq at*;have HOW:=hid_ i;have I:vv.ownBlock≠some wr.heap.size:=λe=>by have:=ag _ e;omega
  clear i;cases d:eC ⟨(pk:Int),a,b,v⟩ (f.take k)
  .by_cases H:bL ⟨yp,ya,yb,yv⟩<bL ⟨(pk:Int),a,b,v⟩
   .have HT:=r d H;have B:(bL ⟨yp,ya,yb,yv⟩==bL ⟨(pk:Int),a,b,v⟩)=false:=RD;have aH:decide (bL ⟨(pk:Int),a,b,v⟩<bL ⟨yp,ya,yb,yv⟩)=false:=RD;have HT:Hid _:=HT;clear q r s t H d;exact adQ
   by_cases A:bL ⟨yp,ya,yb,yv⟩=bL ⟨(pk:Int),a,b,v⟩
   .have HT:Hid _:=s d A;have B:(bL ⟨yp,ya,yb,yv⟩==bL ⟨(pk:Int),a,b,v⟩)=true:=by simpa using A
    clear q r s t H d A;go_wp2_with fail;refine lA (λW=>w.heap.size<W.heap.size/\wr.heap.size<W.heap.size/\Below (w.heap.size+1) (w.alloc (.cells #[pk,a,b,v] 93)) W/\W.ownsRow (w.heap.size+1) 93 4 vv O (cB O)/\W.frozen? ⟨wr,3,none⟩=false/\W.cell? ⟨pb,po+pk*3+2,none⟩=some (.int .i64 qk)/\W.cell? w=some (.int .i64 (pk:Int))/\W.cell? ⟨w,1,none⟩=some (.int .i64 a)/\W.cell? ⟨w,2,none⟩=some (.int .i64 b)/\W.cell? ⟨w,3,none⟩=some (.int .i64 v)/\W.cell? wr=some (.int .i64 yp)/\W.cell? ⟨wr,1,none⟩=some (.int .i64 ya)/\W.cell? ⟨wr,2,none⟩=some (.int .i64 yb)/\W.cell? ⟨wr,3,none⟩=some (.int .i64 yv)) ⟨RD,Q1,hbr.alloc Q0 _,cg HOW (bH _ _),Re,UQ,UR,US,UT,UU,Re,Re,Re,Re⟩ ?_;rintro W0 ⟨sx0,sy0,hx0,ho0,yf0,k20,x00,x10,x20,x30,y00,y10,y20,y30⟩;have HO0:=hid_ ho0;clear ho0 HOW t0 t1 t2 t3 c0 c1 c2 c3 k2r;go_wp2_with fail;have Lx0:=lo_ sx0 x00;have Lx1:=lo_ sx0 x10;have Lx2:=lo_ sx0 x20;have Lx3:=lo_ sx0 x30;have Ly0:=lo_ sy0 y00;have Ly1:=lo_ sy0 y10;have Ly2:=lo_ sy0 y20;have Ly3:=lo_ sy0 y30;refine dz W0.heap.size SI SI ?_;repeat(go_big_quiet_step ((go_at_call 145;exact dy (mF _ _ _ _ _ UV))))
    refine wpQuiet_nil ?_;rintro w2 ⟨⟨w2',hq0⟩,hw0⟩;obtain rfl:w2=w2':=hw0;clear Lx0 Lx1 Lx2 Lx3 Ly0 Ly1 Ly2 Ly3;have x02:=(bF hq0 sx0).trans x00;have x12:=(bF hq0 sx0).trans x10;have x22:=(bF hq0 sx0).trans x20;have x32:=(bF hq0 sx0).trans x30;have y02:=(bF hq0 sy0).trans y00;have y12:=(bF hq0 sy0).trans y10;have y22:=(bF hq0 sy0).trans y20;have y32:=(bF hq0 sy0).trans y30;have aN:=(bF hq0 UW).trans k20;have ap:=(hq0.frozen (p:=⟨wr,3,none⟩) sy0).trans yf0;have sx2:=lt_of_lt_of_le sx0 hq0.size;have sy2:=lt_of_lt_of_le sy0 hq0.size;have HO2:=hid_ (cg HO0 hq0);have hx2:=hx0.trans (hq0.mono UW);clear x00 x10 x20 x30 y00 y10 y20 y30 k20 yf0 HO0;go_wp2_with fail;have Lx0:=lo_ sx2 x02;have Lx1:=lo_ sx2 x12;have Lx2:=lo_ sx2 x22;have Lx3:=lo_ sx2 x32;have Ly0:=lo_ sy2 y02;have Ly1:=lo_ sy2 y12;have Ly2:=lo_ sy2 y22;have Ly3:=lo_ sy2 y32;have au:=lo_ UX aN;refine dz w2.heap.size SI SI ?_;repeat(go_big_quiet_step ((go_at_call 146;exact QW (Id _ _ _ _ ar.out))))
    refine wpQuiet_nil ?_;rintro w3 ⟨⟨w3',hq2⟩,hw2⟩;obtain rfl:w3=w3':=hw2;clear Lx0 Lx1 Lx2 Lx3 Ly0 Ly1 Ly2 Ly3 au;have y03:=(bF hq2 sy2).trans y02;have y13:=(bF hq2 sy2).trans y12;have y23:=(bF hq2 sy2).trans y22;have y33:=(bF hq2 sy2).trans y32;have aW:=(hq2.frozen (p:=⟨wr,3,none⟩) sy2).trans ap;have sx3:=lt_of_lt_of_le sx2 hq2.size;have sy3:=lt_of_lt_of_le sy2 hq2.size;have HO3:=hid_ (cg HO2 hq2);have hx3:=hx2.trans (hq2.mono UX);clear y02 y12 y22 y32 ap HO2;go_wp2_with fail;refine lA (λW=>w.heap.size<W.heap.size/\wr.heap.size<W.heap.size/\Below (w.heap.size+1) (w.alloc (.cells #[pk,a,b,v] 93)) W/\W.ownsRow (w.heap.size+1) 93 4 vv O (cB O)/\W.cell? wr=some (.int .i64 yp)/\W.cell? ⟨wr,1,none⟩=some (.int .i64 ya)/\W.cell? ⟨wr,2,none⟩=some (.int .i64 yb)/\W.cell? ⟨wr,3,none⟩=some (.int .i64 (dv qk yv v))) ⟨by rw[cF];exact sx3,by rw[cF];exact sy3,hx3.setCell (p:=⟨wr,3,none⟩) (by show w.heap.size+1<=wr.heap.size;omega) _,vY HO3 (λl aD=>by have:=ag l aD;omega),by rw[cP Q0];exact y03,by rw[cP Q0];exact y13,by rw[cP Q0];exact y23,fC y33⟩ ?_;rintro C ⟨o,g,V,ah,L,M,N,P⟩;have u:=hid_ ah;clear ah HO3 y03 y13 y23 y33 aW;go_wp2_with fail;have Ly0:=lo_ g L;have Ly1:=lo_ g M;have Ly2:=lo_ g N;have Ly3:=lo_ g P;refine dz C.heap.size SI SI ?_;repeat(go_big_quiet_step ((go_at_call 145;exact dy (mF _ _ _ _ _ UV))))
    refine wpQuiet_nil ?_;rintro aT ⟨⟨aU,j⟩,aJ⟩;obtain rfl:aT=aU:=aJ;clear Ly0 Ly1 Ly2 Ly3;have bc:=(bF j g).trans L;have bd:=(bF j g).trans M;have be:=(bF j g).trans N;have bf:=(bF j g).trans P;have X:=lt_of_lt_of_le o j.size;have a7:=lt_of_lt_of_le g j.size;have ab:=hid_ (cg u j);have aK:=V.trans (j.mono (by have:=o;omega));clear L M N P u;go_wp2_with(at_builtin;refine jo _ rfl _ _ rfl (w.heap.size+1) vv (O) [⟨yp,ya,yb,dv qk yv v⟩] (cg ab (bH _ _)) rfl _ rfl (kB (heap_alloc_new _ _)) RD (by have:=X;simp;omega) ?_;intro v5 w5 hown5 hgr5;have hx5:Below (w.heap.size+1) (w.alloc (.cells #[pk,a,b,v] 93)) w5:=gY (aK.alloc (by have:=X;omega) _) (cg ab (bH _ _)) hgr5 (by have:=X;simp;omega));exact aeB
   have HT:Hid _:=t d Q0;have B:(bL ⟨yp,ya,yb,yv⟩==bL ⟨(pk:Int),a,b,v⟩)=false:=by simpa using A
   have aH:decide (bL ⟨(pk:Int),a,b,v⟩<bL ⟨yp,ya,yb,yv⟩)=true:=RD;have al:=trivial;have am:=trivial;clear q r s t H d A;go_wp2_with fail;refine lA (λW=>w.heap.size<W.heap.size/\wr.heap.size<W.heap.size/\Below (w.heap.size+1) (w.alloc (.cells #[pk,a,b,v] 93)) W/\W.ownsRow (w.heap.size+1) 93 4 vv O (cB O)/\W.frozen? ⟨wr,3,none⟩=false/\W.cell? ⟨pb,po+pk*3+2,none⟩=some (.int .i64 qk)/\W.cell? w=some (.int .i64 (pk:Int))/\W.cell? ⟨w,1,none⟩=some (.int .i64 a)/\W.cell? ⟨w,2,none⟩=some (.int .i64 b)/\W.cell? ⟨w,3,none⟩=some (.int .i64 v)/\W.cell? wr=some (.int .i64 yp)/\W.cell? ⟨wr,1,none⟩=some (.int .i64 ya)/\W.cell? ⟨wr,2,none⟩=some (.int .i64 yb)/\W.cell? ⟨wr,3,none⟩=some (.int .i64 yv)) ⟨RD,Q1,hbr.alloc Q0 _,cg HOW (bH _ _),Re,UQ,UR,US,UT,UU,Re,Re,Re,Re⟩ ?_;rintro W0 ⟨sx0,sy0,hx0,ho0,yf0,k20,x00,x10,x20,x30,y00,y10,y20,y30⟩;have HO0:=hid_ ho0;clear ho0 HOW t0 t1 t2 t3 c0 c1 c2 c3 k2r;go_wp2_with fail;have Lx0:=lo_ sx0 x00;have Lx1:=lo_ sx0 x10;have Lx2:=lo_ sx0 x20;have Lx3:=lo_ sx0 x30;have Ly0:=lo_ sy0 y00;have Ly1:=lo_ sy0 y10;have Ly2:=lo_ sy0 y20;have Ly3:=lo_ sy0 y30;refine dz W0.heap.size SI SI ?_;repeat(go_big_quiet_step ((go_at_call 145;exact dy (mF _ _ _ _ _ UV))))
   refine wpQuiet_nil ?_;rintro w2 ⟨⟨w2',hq0⟩,hw0⟩;obtain rfl:w2=w2':=hw0;clear Lx0 Lx1 Lx2 Lx3 Ly0 Ly1 Ly2 Ly3;have x02:=(bF hq0 sx0).trans x00;have x12:=(bF hq0 sx0).trans x10;have x22:=(bF hq0 sx0).trans x20;have x32:=(bF hq0 sx0).trans x30;have y02:=(bF hq0 sy0).trans y00;have y12:=(bF hq0 sy0).trans y10;have y22:=(bF hq0 sy0).trans y20;have y32:=(bF hq0 sy0).trans y30;have sx2:=lt_of_lt_of_le sx0 hq0.size;have sy2:=lt_of_lt_of_le sy0 hq0.size;have HO2:=hid_ (cg HO0 hq0);have hx2:=hx0.trans (hq0.mono UW);clear x00 x10 x20 x30 y00 y10 y20 y30 HO0;go_wp2_with fail;have Lx0:=lo_ sx2 x02;have Lx1:=lo_ sx2 x12;have Lx2:=lo_ sx2 x22;have Lx3:=lo_ sx2 x32;have Ly0:=lo_ sy2 y02;have Ly1:=lo_ sy2 y12;have Ly2:=lo_ sy2 y22;have Ly3:=lo_ sy2 y32;refine dz w2.heap.size SI SI ?_;repeat(go_big_quiet_step ((go_at_call 145;exact dy (mF _ _ _ _ _ UV))))
   refine wpQuiet_nil ?_;rintro w3 ⟨⟨w3',hq2⟩,hw2⟩;obtain rfl:w3=w3':=hw2;clear Lx0 Lx1 Lx2 Lx3 Ly0 Ly1 Ly2 Ly3;have a8:=(bF hq2 sx2).trans x02;have a9:=(bF hq2 sx2).trans x12;have ba:=(bF hq2 sx2).trans x22;have bb:=(bF hq2 sx2).trans x32;have y03:=(bF hq2 sy2).trans y02;have y13:=(bF hq2 sy2).trans y12;have y23:=(bF hq2 sy2).trans y22;have y33:=(bF hq2 sy2).trans y32;have sx3:=lt_of_lt_of_le sx2 hq2.size;have sy3:=lt_of_lt_of_le sy2 hq2.size;have HO3:=hid_ (cg HO2 hq2);have hx3:=hx2.trans (hq2.mono UX);clear x02 x12 x22 x32 y02 y12 y22 y32 HO2;go_wp2_with(first|(have av:=al;at_builtin;refine jo _ rfl _ _ rfl (w.heap.size+1) vv (O) [⟨(pk:Int),a,b,v⟩] (cg HO3 (bH _ _)) rfl _ rfl (kB (heap_alloc_new _ _)) RD UY ?_;intro an C aF n;have V:Below (w.heap.size+1) (w.alloc (.cells #[pk,a,b,v] 93)) C:=gY (hx3.alloc UZ _) (cg HO3 (bH _ _)) n UY;clear al;have u:Hid (C.ownsRow (w.heap.size+1) 93 4 an (O++[(⟨(pk:Int),a,b,v⟩:Fct)]).length (cB (O++[(⟨(pk:Int),a,b,v⟩:Fct)]))):=aF;have o:w.heap.size<C.heap.size:=lt_of_lt_of_le UY n.size;have L:=n.cell ((bF (bH _ _) sy3).trans y03) (λe=>I e.symm);have M:=n.cell ((bF (bH _ _) sy3).trans y13) (λe=>I e.symm);have N:=n.cell ((bF (bH _ _) sy3).trans y23) (λe=>I e.symm);have P:=n.cell ((bF (bH _ _) sy3).trans y33) (λe=>I e.symm))|(have av:=am;at_builtin;refine jo _ rfl _ _ rfl (w.heap.size+1) an (O++[(⟨(pk:Int),a,b,v⟩:Fct)]) [⟨yp,ya,yb,yv⟩] (cg u (bH _ _)) rfl _ rfl (kB (heap_alloc_new _ _)) RD (by have:=o;simp;omega) ?_;intro v5 w5 hown5 hgr5;have hx5:Below (w.heap.size+1) (w.alloc (.cells #[pk,a,b,v] 93)) w5:=gY (V.alloc (by have:=o;omega) _) (cg u (bH _ _)) hgr5 (by have:=o;simp;omega);clear am));exact aeB
  have S:=q d;have B:(bL ⟨yp,ya,yb,yv⟩==bL ⟨(pk:Int),a,b,v⟩)=false:=by simpa using S.1
  have HT:Hid _:=S.2;clear q r s t S d;exact adQ
 have Z:Hid (f.take k=f):=List.take_of_length_le Q0;rw[Z.out] at i;have az:(eo (bJ c) ⟨(pk:Int),a,b,v⟩ f).length<=126:=le_trans (zS _ _ _) Q0;rw[Z.out];cases d:eC ⟨(pk:Int),a,b,v⟩ f
 .obtain⟨y,z⟩:=F3 (K:=bJ c) d;have Q:=hid_ y;have R:=hid_ z;have HO3:=hid_ i;have sx3:=sxr;have hx3:=hbr;clear y z i D E F d;generalize eo (bJ c) ⟨(pk:Int),a,b,v⟩ f=O at*;go_wp2_with(at_builtin;refine jo _ rfl _ _ rfl (w.heap.size+1) vv (O) [⟨(pk:Int),a,b,v⟩] (cg HO3 (bH _ _)) rfl _ rfl (kB (heap_alloc_new _ _)) RD UY ?_;intro v5 w5 hown5 hgr5;have hx5:Below (w.heap.size+1) (w.alloc (.cells #[pk,a,b,v] 93)) w5:=gY (hx3.alloc UZ _) (cg HO3 (bH _ _)) hgr5 UY);go_ret2;have aE:(O++[(⟨(pk:Int),a,b,v⟩:Fct)]).length<=140737488355328:=RD;exact⟨v5,by rw[R.out];rfl,by rw[Q.out];exact lz hown5 aE,pD hown5 Q0,(bH _ _).trans (hx5.mono Q1)⟩
 obtain⟨y,z⟩:=F2 (K:=bJ c) d;have HOW:=hid_ i;have Q:=hid_ y.symm;have R:=hid_ z.symm;clear y z i D E F d;generalize eo (bJ c) ⟨(pk:Int),a,b,v⟩ f=O at*;generalize gK (bJ c) ⟨(pk:Int),a,b,v⟩ f=aq at*;go_wp2_with fail;go_ret2;exact⟨vv,by rw[R.out];rfl,by rw[Q.out];exact lz HOW Q0,pD HOW Q0,U⟩
def e9(ps:List Prd)(rs:List Rul)(f:List Fct)(a:Atm):Int:=if bS ps rs f≠0 then bS ps rs f else cf ps a
def gJ(ps:List Prd)(rs:List Rul)(f:List Fct)(a:Atm):List Fct:=if e9 ps rs f a≠0 then[] else dJ f a
structure bu (f:List Fct) (a:Atm):Prop where
 two:a.args.length<=2
 vars:∀t∈a.args,t.var=true->0<=t.n/\t.n<=2
 fa:∀x∈f,0<=x.a/\x.a<=4
 fb:∀x∈f,0<=x.b/\x.b<=4
 few:f.length<=125
theorem zq{a d f g}(h:e9 a d f g=0):bP a d=0/\bW a f=0/\bS a d f=0/\cf a g=0/\bu f g:=by
 have h1:bS a d f=0:=byContradiction λc=>by rw[e9,if_pos c] at h;exact c h
 have b:cf a g=0:=by rw[e9,if_neg UO] at h;exact h
 have o:bP a d=0:=byContradiction λc=>by rw[bS,if_pos c] at h1;exact c h1
 have i:bW a f=0:=by rw[bS,if_neg (by rw[o];simp)] at h1;exact h1
 have m:=cG i;refine⟨o,i,h1,b,?_,?_,λl k=>?_,λl k=>?_,mB i⟩
 .have q:=(eR i).2.1;rw[cf] at b;split at b
  .rename_i hi;split at b
   .rename_i he;obtain⟨e,n,p⟩:=fd.1 hi;have:=all_eq_true.1 q a[e] (getElem_mem n);unfold jn at this;rw[dN,p,Int.toNat_natCast,List.getElem?_eq_getElem n] at he;simp[bQ] at this he;omega
   contradiction
  contradiction
 .intro t r s;have:=all_eq_true.1 (gP b).2 t r;unfold db at this;rw[s] at this;simp[bQ] at this;omega
 .obtain⟨_,_,j,h1,_,_,_⟩:=m.fine l k;exact⟨j,h1⟩
 obtain⟨_,_,_,_,j,h1,_⟩:=m.fine l k;exact⟨j,h1⟩
theorem U5(h:p:=by rw[<-hW1];exact((Below.refl _ _).alloc (le_refl _) _).alloc (by simp) _):p:=h
theorem U6(h:p:=by have h1:(dJ f a).length<=f.length:=List.length_filter_le _ _;omega):p:=h
theorem U7(h:p:=by simp[results,results49,go_sem]):p:=h
theorem U8(h:p:=by rw[HE1.out.2];exact ie _):p:=h
theorem aaE(h:p:=by
 have hm:e9 ps rs f a=0:=by rw[HE1.out,h]
 exact⟨(zq hm).2.2.2.2,hm,by rw[gJ,if_neg (by rw[hm];simp)]⟩):p:=h
theorem abD(h:p:=by exact⟨u,by rw[HEE.out.1],by rw[HEE.out.2];exact HFX.out,kr⟩):p:=h
theorem aeu(h:p:=by
 go_roundw
 case rel=>exact⟨k+1,v6,rfl,Q0,Rv,by rw[HMT.out];exact hown6,hx6⟩
 exact S6):p:=h
theorem FP(b:World)(s O F t ps rs f a)(K:bR b s ps)(V:ck b O rs)(J:bO b F f)(L:cr b t a.args)(aK:dU ps):Calls prog 49 #[.agg #[s,O],F,.agg #[a.pred,t]] b λe A=>∃u,e=.returned (.tuple #[u,.int .i64 (e9 ps rs f a)])/\bO A u (gJ ps rs f a)/\Below b b A:=by
 have au:=hid_ (λg c=>He g s O F ps rs f (bR.a c K) (ck.a c V) (bO.a c J) aK);have ao:Hid (∀g,Below b b g->Calls prog 100 #[s,.agg #[a.pred,t]] g λe A=>e=.returned (.int .i64 (cf ps a))/\Below g g A):=λg c=>p8 g s t ps a.pred a.args (bR.a c K) (cr.a c L);have ap:=lf_ J;have av:=lt_ L;obtain⟨X,Y,rfl,_⟩:=K;obtain⟨ad,ae,rfl,_⟩:=V;obtain⟨aE,aG,rfl,_⟩:=J;obtain⟨D,E,rfl,_⟩:=L;obtain⟨i,hW1⟩:=ex_ ((b.alloc (.cells #[.slice X ps Y,.slice ad rs ae] 30)).alloc (.cells #[a.pred,.slice D a.args E] 55));have Q:Below b b i:=U5;have aU:i.heap.size=b.heap.size+1+1:=UA;have Z:i.cell? b=some (.slice X ps Y):=UB;have aa:i.cell? ⟨b,1,none⟩=some (.slice ad rs ae):=UB;have ab:i.cell? ⟨b.heap.size+1,0,none⟩=some (.int .i64 a.pred):=UB;have ac:i.cell? ⟨b.heap.size+1,1,none⟩=some (.slice D a.args E):=UB;have C:=hid_ λg (c:Below i i g)=>an_ ((bF c Q0).trans Z) (an_ ((bF c Q0).trans aa) (an_ ((bF c Q0).trans ab) ((bF c Q0).trans ac)));go_enter func49,ntmps49;go_wp2_with fail;refine mo_ (au _ Q) λaC G=>?_;have N:=bt_ Q G;clear hW1 Z aa ab ac;obtain⟨o,p,m,n⟩:=C aC G;by_cases h1:bS ps rs f=0
 .have HE1:Hid (e9 ps rs f a=cf ps a):=by show _=_;rw[e9,if_neg UO]
  have ar:Hid (cf ps a=0->bu f a/\e9 ps rs f a=0/\gJ ps rs f a=dJ f a):=λh=>by
   exact aaE
  rw[h1];clear h1;go_wp2_with fail;refine mo_ (ao _ N) λj S=>?_;have W:=bt_ N S;have w:=bt_ G S;clear o p m n;obtain⟨o,p,m,n⟩:=C j w;by_cases h2:cf ps a=0
  .obtain⟨q,hm,T⟩:=ar h2;have HEE:Hid (e9 ps rs f a=0/\gJ ps rs f a=dJ f a):=⟨hm,T⟩;have aR:=q.few;rw[h2];clear h2 hm T o p m n;go_wp2_with fail;go_loopw [10,11] (λaN M wr=>∃(k:Nat) (u:Value),u=aN/\k<=f.length/\M=.int .i64 k/\wr.ownsRow j.heap.size 93 4 u (dJ (f.take k) a).length (cB (dJ (f.take k) a))/\Below j j wr) (λ_ M _=>f.length-(intOf M).toNat)
   case atStart=>exact⟨0,_,rfl,zero_le _,rfl,⟨rfl,.inl ⟨rfl,rfl⟩⟩,Below.refl _ _⟩
   obtain⟨k,u,rfl,aS,rfl,r,x⟩:=hrel;have kr:=bt_ W x;by_cases z:k<f.length
   .obtain⟨aF,aI,aH,U,y,af,ag,ah,ai⟩:=cN (ap wr kr) z;obtain⟨rfl,rfl⟩:aE=some ⟨aF,aI,none⟩/\aG=aH:=by simpa using U
    obtain⟨o,p,m,n⟩:=C wr (w.trans (x.mono w.size));have aT:(k:Int)<(f.length:Int):=Q0;have HMT:Hid (dJ (f.take (k+1)) a=dJ (f.take k) a++if iR a f[k] then[f[k]] else[]):=zs z
    have aq:Hid ((dJ (f.take k) a).length<=125):=by
     have h1:(dJ (f.take k) a).length<=(f.take k).length:=List.length_filter_le _ _;rw[length_take] at h1;show _<=_;omega
    have P:=hid_ λd (aM:Below wr wr d)=>FL d (.slice D a.args E) a f[k] (av d (kr.trans (aM.mono kr.size))) q.two q.vars (q.fa _ (getElem_mem z)) (q.fb _ (getElem_mem z));have l:=hid_ λg (c:Below wr wr g)=>an_ ((bF c y).trans af) (an_ ((bF c y).trans ag) (an_ ((bF c y).trans ah) ((bF c y).trans ai)));obtain⟨ak,al,am,an⟩:=l wr (Below.refl _ _);clear U af ag ah ai;generalize f[k]=aj at*;go_wp2_with fail;have R:b.heap.size+1<wr.heap.size:=by have:=w.size;have:=x.size;omega
    have aw:=lo_ R m;have ax:=lo_ R n;have ay:=λ(d:Low wr.heap.size wr)=>(l _ d.low).1;have az:=λ(d:Low wr.heap.size wr)=>(l _ d.low).2.1;have aA:=λ(d:Low wr.heap.size wr)=>(l _ d.low).2.2.1;have aB:=λ(d:Low wr.heap.size wr)=>(l _ d.low).2.2.2;refine dz wr.heap.size SI SI ?_;repeat(go_big_quiet_step (first|(go_at_call 102;exact dy (P _ (Low.low _)))))
    refine wpQuiet_nil ?_;rintro aD ⟨⟨_,I⟩,rfl⟩;clear aw ax ay az aA aB;have B:=hid_ (cg r I);have H:=bt_ x I;have aL:=H.size;clear ak al am an r P o p m n;obtain⟨ak,al,am,an⟩:=l aD I;generalize iR a aj=d at*;cases d
    .rw[if_neg Q1,append_nil] at HMT;go_wp2_with fail;go_roundw
     case rel=>exact⟨k+1,u,rfl,Q0,Rv,by rw[HMT.out];exact B.out,H⟩
     exact S6
    rw[if_pos rfl] at HMT;go_wp2_with(at_builtin;refine jo _ rfl _ _ rfl j.heap.size u (dJ (f.take k) a) [aj] (cg B (bH _ _)) rfl _ rfl (kB (heap_alloc_new _ _)) (by have:=aq.out;simp;omega) RD ?_;intro v6 aO hown6 aJ;have hx6:Below j j aO:=gY (H.alloc aL _) (cg B (bH _ _)) aJ RD);exact aeu
   obtain rfl:k=f.length:=Q0;rw[List.take_length] at r;have HFX:=hid_ (lz r U6);clear r;go_wp2_with fail;refine bodyPost_ret (v:=.tuple #[u,.int .i64 0]) U7 rfl ?_;exact abD
  have aQ:(cf ps a==0)=false:=Q5;have HEE:Hid (gJ ps rs f a=[]):=by show _=_;rw[gJ,if_pos (by rw[HE1.out];exact h2)]
  go_wp2_with fail;refine bodyPost_ret (v:=.tuple #[.slice none 0 0,.int .i64 (cf ps a)]) U7 rfl ?_;exact⟨_,by rw[HE1.out],by rw[HEE.out];exact ie _,W⟩
 have aP:(bS ps rs f==0)=false:=Q6
 have HE1:Hid (e9 ps rs f a=bS ps rs f/\gJ ps rs f a=[]):=by
  have e:e9 ps rs f a=bS ps rs f:=by rw[e9,if_pos h1]
  exact⟨e,by rw[gJ,if_pos (by rw[e];exact h1)]⟩
 go_wp2_with fail;refine bodyPost_ret (v:=.tuple #[.slice none 0 0,.int .i64 (bS ps rs f)]) U7 rfl ?_;exact⟨_,by rw[HE1.out.1],U8,N⟩
def wD(s:Stp):Fct:=⟨s.rule,s.x,s.y,s.z⟩
theorem Ho{b:World}{a l}(g:bO b a (l.map wD)):cL b a l:=by
 obtain⟨c,f,rfl,j,hx⟩:=g;refine⟨c,f,Rj,by rwa[length_map] at j,?_⟩;rcases hx with hx|⟨d,m,rfl,h,hx⟩
 .exact .inl SA
 exact .inr ⟨d,m,rfl,h,λk n i=>hx k (wD n) (by rw[List.getElem?_map,i];rfl)⟩
def cY(l:List Stp):List Value:=cB (l.map wD)
theorem tI{c:World}{a:Nat}{e:TypeId}{b:Value}{l:List Stp}(d:c.ownsRow a e 4 b l (cY l))(hl:l.length<=140737488355328):cL c b l:=
 Ho (lz (base:=a) (e:=e) (by rw[length_map];exact d) Ri)
theorem wj:(prog.info? 140).map (λa=>(a.zero,a.size,a.bytes))=some (some (.agg #[.int .i64 0,.int .i64 0,.int .i64 0,.int .i64 0]),4,32):=SI
theorem nk(c:World){p:Array Oper}{q:List Oper}{o:Oper}{g:Act}{m:Exit->Act->World->Prop}(B:o.guard=none)(s l:Operand)(D:o.op=.call {callee:=.builtin .append,args:=#[s,l],argTypes:=#[86,86]})(h:Nat)(i:Value)(b:List Stp)(a:Stp)(E:c.ownsRow h 140 4 i b (cY b))(G:g.eval s=i)(f:Nat)(I:g.eval l=.slice (some ⟨f,0,none⟩) 1 1)(L:TypeId)(F:c.heap[f]? =some (.cells #[a.rule,a.x,a.y,a.z] L))(M:b.length<=500)(w:h<=c.heap.size)(t:∀j d,d.ownsRow h 140 4 j (b++[a]).length (cY (b++[a]))->c.grownBy d i.ownBlock->wpList prog p m q (g.put o.dst j) d):wpList prog p m (o::q) g c:=by
 obtain⟨K,C,J,H,A⟩:=info_parts wj;rcases kB F with⟨n,k,_⟩|⟨r,n,he,k⟩
 .simp at k
 obtain⟨rfl,rfl⟩:(⟨f,0,none⟩:Addr)=r/\1=n:=Ro;refine wpList_append_own_wide c B s l 86 D h 140 K _ 4 32 underlying86 C J H A rfl Q0 i b (cY b) G E ⟨f,0,none⟩ 1 1 (cB [⟨a.rule,a.x,a.y,a.z⟩]) I (oN _) k (oO _) Ut Q0 w ?_;intro j d u v _;refine t j d ?_ v;rw[length_append,cY,List.map_append,qR];exact u
def gZ(f:List Fct)(r:Rul)(a b c:Nat):Bool:=(decide (a=0)||dj r 0)&&(decide (b=0)||dj r 1)&&(decide (c=0)||dj r 2)&&cS f ⟨a,b,c⟩ r.body
def dF(f:List Fct)(r:Rul)(n:Int)(a b k:Nat):List Stp:=((List.range k).filter (gZ f r a b)).map λc=>⟨n,a,b,(c:Nat)⟩
def dp(f:List Fct)(r:Rul)(n:Int)(a k:Nat):List Stp:=(List.range k).flatMap λb=>dF f r n a b 5
def df(f:List Fct)(r:Rul)(n:Int)(k:Nat):List Stp:=(List.range k).flatMap λa=>dp f r n a 5
def bI(f:List Fct)(r:Rul)(n:Int):List Stp:=df f r n 5
theorem AB(f c n a b k):dF f c n a b (k+1)=dF f c n a b k++if gZ f c a b k then[⟨n,a,b,k⟩] else[]:=by
 unfold dF;rw[range_succ,List.filter_append,List.map_append];congr 1;rw[List.filter_cons];split<;>rfl
theorem aeS(h:p:=by rw[range_succ,List.flatMap_append,List.flatMap_singleton]):p:=h
theorem AA(f b n a k):dp f b n a (k+1)=dp f b n a k++dF f b n a k 5:=by
 unfold dp;exact aeS
theorem Az(f a n k):df f a n (k+1)=df f a n k++dp f a n k 5:=by
 unfold df;exact aeS
theorem wC(f c n a b):∀k,(dF f c n a b k).length<=k
 |0=>by simp[dF]
 |k+1=>by
  rw[AB,length_append]
  have:=wC f c n a b k
  split<;>simp<;>omega
theorem wB(f b n a):∀k,(dp f b n a k).length<=5*k
 |0=>by simp[dp]
 |k+1=>by
  rw[AA,length_append]
  have:=wB f b n a k
  have:=wC f b n a k 5
  omega
theorem rk(f a n):∀k,(df f a n k).length<=25*k
 |0=>by simp[df]
 |k+1=>by
  rw[Az,length_append]
  have:=rk f a n k
  have:=wB f a n k 5
  omega
def Stp.a(s:Stp):ae:=⟨s.x,s.y,s.z⟩
def fm(n:Int)(v:ae):Stp:=⟨n,v.x,v.y,v.z⟩
def iT(s t:Stp):Bool:=decide (s.x<t.x)||(decide (s.x=t.x)&&(decide (s.y<t.y)||(decide (s.y=t.y)&&decide (s.z<t.z))))
theorem pI{s a}:iT s a=true↔s.x<a.x\/s.x=a.x/\(s.y<a.y\/s.y=a.y/\s.z<a.z):=by unfold iT;simp
theorem wv{s a}:iT s a=false↔¬(s.x<a.x\/s.x=a.x/\(s.y<a.y\/s.y=a.y/\s.z<a.z)):=by rw[<-pI];simp
theorem abz(h:p:=by
 simp[ae.a] at this
 exact .inl this):p:=h
theorem Ap{f d g i j}:gZ f d g i j=true↔cS f ⟨g,i,j⟩ d.body=true/\∀c,(c=0\/c=1\/c=2)->dj d c=false->(⟨g,i,j⟩:ae).a c=0:=by
 unfold gZ;simp only[and_eq_true,Bool.or_eq_true,decide_eq_true_eq];constructor
 .rintro⟨⟨⟨l,m⟩,n⟩,o⟩;refine⟨o,λc p b=>?_⟩;rcases p with rfl|rfl|rfl
  .rcases l with h|h
   .subst h;rfl
   rw[h] at b;cases b
  .rcases m with h|h
   .subst h;rfl
   rw[h] at b;cases b
  rcases n with h|h
  .subst h;rfl
  rw[h] at b;cases b
 rintro⟨h,k⟩;refine⟨⟨⟨?_,?_⟩,?_⟩,h⟩
 .cases e:dj d 0
  .have:=k 0 (.inl rfl) e;exact abz
  exact .inr rfl
 .cases e:dj d 1
  .have:=k 1 (.inr (.inl rfl)) e;exact abz
  exact .inr rfl
 cases e:dj d 2
 .have:=k 2 (.inr (.inr rfl)) e;exact abz
 exact .inr rfl
theorem iG{f j n s}:s∈bI f j n↔s.rule=n/\pG f j s.a:=by
 unfold bI df dp dF;simp only[mem_flatMap,mem_map,List.mem_filter,List.mem_range];constructor
 .rintro⟨b,r,c,h,d,⟨g,q⟩,rfl⟩;obtain⟨o,p⟩:=Ap.1 q;refine⟨rfl,?_,o,p⟩;unfold cT;rw[and_eq_true,and_eq_true];exact⟨kE.2 ⟨by show(0:Int)<=(b:Int);omega,by show(b:Int)<=4;omega⟩,kE.2 ⟨by show(0:Int)<=(c:Int);omega,by show(c:Int)<=4;omega⟩,kE.2 ⟨by show(0:Int)<=(d:Int);omega,by show(d:Int)<=4;omega⟩⟩
 obtain⟨t,k,l,m⟩:=s;rintro⟨rfl,g,h,i⟩;unfold cT at g;rw[and_eq_true,and_eq_true,kE,kE,kE] at g;simp only[Stp.a] at g h i;obtain⟨b,rfl⟩:∃b:Nat,k=(b:Int):=⟨k.toNat,Q0⟩;obtain⟨c,rfl⟩:∃c:Nat,l=(c:Int):=⟨l.toNat,Q0⟩;obtain⟨d,rfl⟩:∃d:Nat,m=(d:Int):=⟨m.toNat,Q0⟩;exact⟨b,Q0,c,Q0,d,⟨Q0,Ap.2 ⟨h,i⟩⟩,rfl⟩
theorem ww(k):(List.range k).Pairwise (· < ·):=List.pairwise_lt_range
theorem GB(f j n):(bI f j n).Pairwise λs g=>iT s g=true:=by
 unfold bI df;rw[List.pairwise_flatMap];refine⟨λh _=>?_,?_⟩
 .unfold dp;rw[List.pairwise_flatMap];refine⟨λc _=>?_,?_⟩
  .unfold dF;rw[pairwise_map];refine List.Pairwise.imp ?_ ((ww 5).filter _);intro d i m;rw[pI];exact .inr ⟨rfl,.inr ⟨rfl,by show(d:Int)<(i:Int);omega⟩⟩
  refine List.Pairwise.imp ?_ (ww 5);intro c d l s a g b;unfold dF at a b;rw[mem_map] at a b;obtain⟨_,_,rfl⟩:=a;obtain⟨_,_,rfl⟩:=b;rw[pI];exact .inr ⟨rfl,.inl (by show(c:Int)<(d:Int);omega)⟩
 refine List.Pairwise.imp ?_ (ww 5);intro h c k s a g b;unfold dp dF at a b;simp only[mem_flatMap,mem_map] at a b;obtain⟨_,_,_,_,rfl⟩:=a;obtain⟨_,_,_,_,rfl⟩:=b;rw[pI];exact .inl (by show(h:Int)<(c:Int);omega)
theorem tH(s):iT s s=false:=by rw[wv];omega
theorem Ao{s a b}(c:iT s a=true)(k:iT a b=true):iT s b=true:=by rw[pI] at*;omega
theorem Ay:∀{l k:List Stp},(l.Pairwise λs a=>iT s a=true)->(k.Pairwise λs a=>iT s a=true)->(∀s,s∈l↔s∈k)->l=k
 |[],[],_,_,_=>rfl
 |[],a::k,_,_,b=>absurd ((b a).2 Q1) Q1
 |s::l,[],_,_,b=>absurd ((b s).1 Q1) Q1
 |s::l,a::k,i,h,b=>by
  have g:=pairwise_cons.1 i
  have f:=pairwise_cons.1 h
  have e:s=a:=by
   rcases mem_cons.1 ((b s).1 Q1) with e|hs
   .exact e
   rcases mem_cons.1 ((b a).2 Q1) with e|ht
   .exact e.symm
   have:=Ao (g.1 a ht) (f.1 s hs)
   rw[tH] at this
   cases this
  subst e
  congr 1
  refine Ay g.2 f.2 λd=>?_
  constructor
  .intro c
   rcases mem_cons.1 ((b d).1 (by simp[c])) with e|hu'
   .subst e
    have:=g.1 d c
    rw[tH] at this
    cases this
   exact hu'
  intro c
  rcases mem_cons.1 ((b d).2 (by simp[c])) with e|hu'
  .subst e
   have:=f.1 d c
   rw[tH] at this
   cases this
  exact hu'
theorem aaf(h:p:=by
 rw[Nodup,pairwise_map]
 refine List.Pairwise.imp ?_ (tF hf wy (f_ hr).2.1)
 intro u v huv e
 apply huv
 cases u
 cases v
 simpa[fm] using e):p:=h
theorem G5{i f b n l}(hr:cx i b=0)(hf:bW i f=0)(g:l.Perm ((ep f b.body b.body jp).map (fm n)))(c:l.Pairwise λs d=>iT d s=false):l=bI f b n:=by
 have m:((ep f b.body b.body jp).map (fm n)).Nodup:=by
  exact aaf
 have o:=g.nodup_iff.2 m
 have h:∀s∈l,s.rule=n:=λs c=>by
  obtain⟨v,_,rfl⟩:=mem_map.1 (g.mem_iff.1 c);rfl
 refine Ay ?_ (GB f b n) λs=>?_
 .have:=List.Pairwise.and c o;refine List.Pairwise.imp_of_mem ?_ this;rintro s d c q ⟨j,k⟩;have t:=h s c;have w:=h d q;cases e:iT s d
  .exfalso;rw[wv] at j e;apply k;cases s
   cases d
   simp at*;omega
  rfl
 rw[iG,g.mem_iff,mem_map];constructor
 .rintro⟨v,r,rfl⟩;exact⟨rfl,(wu hr hf v).1 r⟩
 rintro⟨e,p⟩;exact⟨s.a,(wu hr hf _).2 p,by cases s;simp[fm,Stp.a] at*;exact e.symm⟩
theorem Ak{b f a}(hr:cx b a=0)(hf:bW b f=0):(ep f a.body a.body jp).length<=125:=by
 have c:((ep f a.body a.body jp).map (fm 0)).Nodup:=by
  exact aaf
 have g:(ep f a.body a.body jp).map (fm 0)⊆bI f a 0:=λi d=>by
  obtain⟨v,h,rfl⟩:=mem_map.1 d;exact iG.2 ⟨rfl,(wu hr hf v).1 h⟩
 have:=c.length_le_of_subset g;rw[length_map] at this;have:=rk f a 0 5;unfold bI at*;omega
theorem uu{d b}(a:cx d b=0):(bJ d b.head.pred=0->b.src= -1/\b.n=0)/\0<=b.n/\b.n<=15:=by
 rw[cx] at a;split at a
 .contradiction
 split at a
 .contradiction
 split at a
 .contradiction
 split at a
 .contradiction
 unfold gB at a;split at a
 .contradiction
 split at a
 .contradiction
 rename_i h4;split at a
 .contradiction
 split at a
 .contradiction
 refine⟨λc=>?_,Q0,Q0⟩;constructor
 .exact byContradiction λe=>h4 ⟨c,.inl e⟩
 exact byContradiction λe=>h4 ⟨c,.inr e⟩
theorem kZ{b f a d}(g:cx b a=0)(i:bW b f=0)(s:cT d=true):cw b (co b f a d)=true:=by
 have l:=(eR i).2.1;have c:=(nS (f_ g).1 l s).2;obtain⟨n,o,p⟩:=uu g;have r:=(gP (f_ g).1).1;have u:=kE.1 (rj l r).1
 have q:cp (bJ b a.head.pred) (dI b f a d a.body)=0:=by
  by_cases h:bJ b a.head.pred=0
  .obtain⟨t,m⟩:=n h;rw[dI,if_neg Q0,m,h];rfl
  have j:bJ b a.head.pred=1\/bJ b a.head.pred=2\/bJ b a.head.pred=3:=Q0;have k:=mH j o p;rw[dI];split
  .rw[oU];have:=rh i (bL (cv d ((a.body[a.src.toNat]?.map Ltr.atom).getD ⟨0,[]⟩)));exact Hz (mH j this.1 this.2) k
  exact k
 unfold cw at c⊢;simp only[and_eq_true,beq_iff_eq] at c⊢;exact⟨c.1,c.2.1,c.2.2.1,c.2.2.2.1,c.2.2.2.2.1,q⟩
def cA(K:Int->Int):List Fct->List Fct->List Fct
 |f,[]=>f
 |f,x::xs=>cA K (cy K x f) xs
def gh(K:Int->Int):List Fct->List Fct->Bool
 |_,[]=>false
 |f,x::xs=>dR K x f||gh K (cy K x f) xs
theorem xm(a:Int->Int):∀(b c f:List Fct),cA a f (b++c)=cA a (cA a f b) c
 |[],_,_=>rfl
 |x::b,c,f=>by rw[cons_append,cA,cA,xm a b c]
theorem Ch(a:Int->Int):∀(b c f:List Fct),gh a f (b++c)=(gh a f b||gh a (cA a f b) c)
 |[],_,_=>by simp[gh,cA]
 |x::b,c,f=>by rw[cons_append,gh,gh,cA,Ch a b c,Bool.or_assoc]
def eV(ps:List Prd)(f:List Fct)(r:Rul):List Fct:=(bI f r 0).map λs=>co ps f r s.a
theorem rF(d f c n):eV d f c=(bI f c n).map λs=>co d f c s.a:=by
 unfold eV bI df dp dF;rw[map_flatMap,map_flatMap];congr 1;funext a;rw[map_flatMap,map_flatMap];congr 1;funext b;rw[map_map,map_map];rfl
theorem Cp{a f b}(g:cx a b=0)(d:bW a f=0):∀c∈eV a f b,cw a c=true:=λc i=>by
 obtain⟨j,h,rfl⟩:=mem_map.1 i
 exact kZ g d (iG.1 h).2.1
theorem pY{c f}(j:c.length<=5)(g:iE c=true)(h:fV f)(d:∀i∈f,cw c i=true):bW c f=0:=by
 unfold bW;rw[if_neg Q0,if_neg (by rw[g];simp),if_pos];unfold iD;rw[all_eq_true];intro b a;have a:=List.mem_range.1 a;unfold ig;rw[l_ a,d _ (getElem_mem a),Bool.true_and];cases b with
 |zero=>rfl
 |succ b=>
  rw[l_ (show b+1-1<f.length by omega)];have:=(List.pairwise_iff_getElem.1 h) b (b+1) Q0 a Q0;simp[this]
theorem J7{f g d}(h:cw f g=true)(c:cw f d=true)(j:bL d=bL g):cw f ⟨d.pred,d.a,d.b,dv (bJ f g.pred) d.val g.val⟩=true:=by
 obtain⟨i,_,_⟩:=pF (iC c) (iC h) j;unfold cw at*;simp only[and_eq_true,beq_iff_eq] at*;refine⟨c.1,c.2.1,c.2.2.1,c.2.2.2.1,c.2.2.2.2.1,?_⟩;rw[i] at c⊢;exact pJ c.2.2.2.2.2 h.2.2.2.2.2
theorem Ci{a b}(hx:cw a b=true):∀{f:List Fct},(∀y∈f,cw a y=true)->∀z∈cy (bJ a) b f,cw a z=true
 |[],_,z,hz=>by
  rw[cy] at hz
  rcases List.mem_singleton.1 hz with rfl
  exact hx
 |y::f,hf,z,hz=>by
  rw[cy] at hz
  split at hz
  .rename_i e
   rcases mem_cons.1 hz with rfl|hz
   .exact J7 hx (hf y Q1) e
   exact hf z Sz
  split at hz
  .exact abE
  rcases mem_cons.1 hz with rfl|hz
  .exact hf z Q1
  exact Ci hx (λy hy=>hf y Rn) z hz
theorem nz{b f c}(a:bW b f=0)(d:cw b c=true):bW b (cy (bJ b) c f)=0:=
 pY (eR a).1 (eR a).2.1 (zZ (cG a).sorted) (Ci d (kA a))
theorem lK{a}:∀{c f:List Fct},bW a f=0->(∀x∈c,cw a x=true)->bW a (cA (bJ a) f c)=0
 |[],_,b,_=>b
 |x::c,f,b,d=>by
  rw[cA]
  exact lK (nz b (d x Q1)) λg hy=>d g Rn
theorem ut{a f c}(b:bW a f=0)(d:cw a c=true):bW a [c]=0:=
 pY (eR b).1 (eR b).2.1 (List.pairwise_singleton _ _) λh g=>by rw[List.mem_singleton.1 g];exact d
theorem xo{a f b}(c:bW a f=0)(d:cw a b=true):jG a f b=(cy (bJ a) b f,dR (bJ a) b f,0):=by
 simp[jG,ii,c,d]
def cK(ps:List Prd)(S:Rul->Bool)(f:List Fct)(rs:List Rul):List Fct:=rs.flatMap λr=>if S r then eV ps f r else[]
theorem mL{b}{S:Rul->Bool}{f g}(i:∀c∈g,cx b c=0)(h:bW b f=0):∀d∈cK b S f g,cw b d=true:=λd a=>by
 obtain⟨c,j,a⟩:=mem_flatMap.1 a
 split at a
 .exact Cp (i c j) h d a
 cases a
theorem U9(h:p:=by rw[hb4.cell (p:=⟨wr,0,none⟩) (by simp)];simp[go_sem]):p:=h
theorem U_(h:p:=by rw[hb4.cell (p:=⟨wr,1,none⟩) (by simp)];simp[go_sem]):p:=h
theorem Va(h:p:=by rw[hb4.cell (p:=⟨wr,2,none⟩) (by simp)];simp[go_sem]):p:=h
theorem Vb(h:p:=by have:=hb4.size;simp at this;omega):p:=h
theorem Vc(h:p:=by show _=_;rw[HS false (HG.out.trans hbo),if_neg (by simp),append_nil]):p:=h
theorem Vd(h:p:=by rw[HN.out];exact cg HO4 (bH _ _)):p:=h
theorem Ve(h:p:=by show _=_;rw[HS true (HG.out.trans hbo),if_pos rfl]):p:=h
theorem Vf(h:p:=by have h:=heap_alloc_new (w4.alloc (.cells #[hx.pred,hx.a,hx.b,hx.val] 93)) (.cells #[n,a,b,c] 140);rw[size_alloc] at h;exact h):p:=h
theorem Vg(h:p:=by rw[HN.out];exact hown5):p:=h
theorem Vh(h:p:=by show _=_;rw[HOK.out];simp[ec.out,hkc]):p:=h
theorem Vi(h:p:=by rw[HS false HB.out,if_neg (by simp),append_nil];exact HO.out):p:=h
theorem Vj(h:p:=by show _=_;rw[HOK.out];simp[eb.out,hkb]):p:=h
theorem aeZ(h:p:=by
 clear HOK
 go_wp2_with fail
 clear Z y0 y1 y2 y3 y4
 have hbr2:Below (B+1) W2 (wr.alloc (.cells #[a,b,c] 138)):=hbr.alloc hsB _
 have hbx:Below wr wr (wr.alloc (.cells #[a,b,c] 138)):=bH _ _
 refine mo_ (HH _ ⟨a,b,c⟩ (HQ _ hbr2).2.2.2.2.2 HCON.out) λw4 hb4=>?_
 have v0:w4.cell? wr=some (.int .i64 (a:Int)):=U9
 have v1:w4.cell? ⟨wr,1,none⟩=some (.int .i64 (b:Int)):=U_
 have v2:w4.cell? ⟨wr,2,none⟩=some (.int .i64 (c:Int)):=Va
 have s4:wr.heap.size<w4.heap.size:=Vb
 have hbr4:=hbr2.trans (hb4.mono RD)
 have HO4:=hid_ (cg (cg HO hbx) hb4)
 clear hb4 hbr2 hbx HO
 generalize dl ps f r ⟨a,b,c⟩=hx at*
 cases hbo:cS f ⟨a,b,c⟩ r.body
 .have HN:Hid (df f r n a++dp f r n a b++dF f r n a b (c+1)=O):=Vc
  clear HS HG
  go_wp2_with fail
  exact⟨⟨c+1,_,rfl,Q0,Rv,Vd,hbr4.alloc Q0 _⟩,S6⟩
 have HN:Hid (df f r n a++dp f r n a b++dF f r n a b (c+1)=O++[⟨n,a,b,c⟩]):=Ve
 clear HS HG
 go_wp2_with(at_builtin;refine nk _ rfl _ _ rfl (B+1) vv O ⟨n,a,b,c⟩ (cg (cg HO4 (bH _ _)) (bH _ _)) rfl (w4.heap.size+1) rfl 140 Vf HLEN RD ?_;intro v5 w5 hown5 hgr5;have hx5:Below (B+1) W2 w5:=gY ((hbr4.alloc Q0 _).alloc RD _) (cg (cg HO4 (bH _ _)) (bH _ _)) hgr5 RD)
 exact⟨⟨c+1,_,rfl,Q0,Rv,Vg,hx5⟩,S6⟩):p:=h
theorem YD(h:p:=by
 have HN:Hid (wr.ownsRow (B+1) 140 4 vv (df f r n a++dp f r n a b++dF f r n a b (c+1)).length (cY (df f r n a++dp f r n a b++dF f r n a b (c+1)))):=Vi
 clear HO HS HOK HB HCON Z
 go_wp2_with fail
 exact⟨⟨c+1,_,rfl,Q0,Rv,HN.out,hbr⟩,S6⟩):p:=h
theorem YJ(h:p:=by
 have HN:Hid (df f r n a++dp f r n a b++dF f r n a b (c+1)=O):=Vc
 clear HS HG
 go_wp2_with fail
 exact⟨⟨c+1,_,rfl,Q0,Rv,Vd,hbr4.alloc Q0 _⟩,S6⟩):p:=h
theorem ab0(h:p:=by
 rw[hkc] at y4
 have HB:Hid (gZ f r a b c=false):=Vh
 exact YD):p:=h
theorem aci(h:p:=by
 rw[hkb] at y3
 have HB:Hid (gZ f r a b c=false):=Vj
 exact YD):p:=h
theorem v_(d:World)(ab ac R ps i f n)(W:bR d ab ps)(L:ck d ac i)(T:bO d R f)(X:∀r∈i,cx ps r=0)(U:bW ps f=0)(V:n<i.length):Calls prog 95 #[.agg #[ab,ac],R,n] d λe H=>∃k,e=.returned k/\cL H k (bI f i[n] n)/\(∀b,k.ownBlock=some b->d.heap.size<=b)/\Below d d H:=by
 have P:=lp_ W;have Q:=lr_ L;have N:=lf_ T;have I:Hid ((∀r∈i,cx ps r=0)/\bW ps f=0):=⟨X,U⟩;obtain⟨E,G,F,rfl,aT,al⟩:=cN L V;obtain⟨A,C,rfl,aS,ap⟩:=W;obtain⟨af,ag,rfl,aO,am⟩:=T;obtain⟨au,⟨aB,av,M⟩,aw,ax,aC,ay,ad⟩:=al;clear ap am X U L
 have HH:Hid (∀g k,Below d d g->cT k=true->Calls prog 97 #[.agg #[.slice A ps C,.slice (some ⟨E,G,none⟩) i F],.slice af f ag,n,.agg #[k.x,k.y,k.z]] g λe H=>e=.returned (.tuple #[.bool (cS f k i[n].body),.agg #[.int .i64 (dl ps f i[n] k).pred,.int .i64 (dl ps f i[n] k).a,.int .i64 (dl ps f i[n] k).b,.int .i64 (dl ps f i[n] k).val]])/\Below g g H):=λg k hx aq=>
  tE g _ _ _ ps i f n k (P g hx) (Q g hx) (N g hx) I.out.1 I.out.2 V aq
 clear P Q N I;have aQ:(0:Int)<=(n:Int):=Q0;have aR:(n:Int)<(i.length:Int):=Q0;generalize aU:i[n]=r at*;obtain⟨aG,aL,rfl,aP,an⟩:=id M;clear an;go_enter func95,ntmps95;go_wp2_with fail;refine mo_ (Hl _ r _ _ _ (cr.a (bH _ _) M) (dC.a (bH _ _) ad)) λm v=>?_;have u:=cU (bH _ _) v;have K:m.cell? d=some (.slice A ps C)/\m.cell? ⟨d,1,none⟩=some (.slice (some ⟨E,G,none⟩) i F):=⟨by rw[v.cell (p:=⟨d,0,none⟩) Q1];simp[go_sem],by rw[v.cell (p:=⟨d,1,none⟩) Q1];simp[go_sem]⟩;have Y:d.heap.size<m.heap.size:=by have:=v.size;simp at this;omega
 clear v au av aw ax ay ad M;go_wp2_with fail;obtain⟨W2,w⟩:=ex_ (m.alloc (.cells #[.bool (dj r 0),.bool (dj r 1),.bool (dj r 2)] 194));have aV:W2.heap.size=m.heap.size+1:=by rw[<-w];simp
 have HQ:Hid (∀g,Below (m.heap.size+1) W2 g->g.cell? d=some (.slice A ps C)/\g.cell? ⟨d,1,none⟩=some (.slice (some ⟨E,G,none⟩) i F)/\g.cell? m=some (.bool (dj r 0))/\g.cell? ⟨m,1,none⟩=some (.bool (dj r 1))/\g.cell? ⟨m,2,none⟩=some (.bool (dj r 2))/\Below d d g):=λg hx=>by
  subst w;have e:=(bH _ _).trans (hx.mono Q0);exact⟨(bF e Y).trans K.1,(bF e Y).trans K.2,by rw[hx.cell (p:=⟨m,0,none⟩) Q1];simp[go_sem],by rw[hx.cell (p:=⟨m,1,none⟩) Q1];simp[go_sem],by rw[hx.cell (p:=⟨m,2,none⟩) Q1];simp[go_sem],u.trans (e.mono u.size)⟩
 rw[w];clear w K u;generalize m.heap.size=B at*;go_loopw [7,9] (λl o wr=>∃(a:Nat) (vv:Value),vv=l/\a<=5/\o=.int .i64 a/\wr.ownsRow (B+1) 140 4 vv (df f r n a).length (cY (df f r n a))/\Below (B+1) W2 wr) (λ_ o _=>5-(intOf o).toNat)
 case atStart=>exact⟨0,_,rfl,Q0,rfl,World.ownsRow_nil _ _ _ _,Below.refl _ _⟩
 obtain⟨a,vv,rfl,aH,rfl,j,hbr⟩:=hrel;by_cases aI:a<5
 .have ai:(a:Int)<=4:=Q0;have HO:=hid_ j;clear j;go_wp2_with fail;go_loopw [7,10] (λl o wr=>∃(b:Nat) (vv:Value),vv=l/\b<=5/\o=.int .i64 b/\wr.ownsRow (B+1) 140 4 vv (df f r n a++dp f r n a b).length (cY (df f r n a++dp f r n a b))/\Below (B+1) W2 wr) (λ_ o _=>5-(intOf o).toNat)
  case atStart=>exact⟨0,_,rfl,Q0,rfl,by rw[show dp f r n a 0=[] from rfl,append_nil];exact HO.out,hbr⟩
  clear HO hbr;obtain⟨b,vv,rfl,aJ,rfl,j,hbr⟩:=hrel;by_cases aK:b<5
  .have aj:(b:Int)<=4:=Q0;have HO:=hid_ j;clear j;go_wp2_with fail;go_loopw [7,11] (λl o wr=>∃(c:Nat) (vv:Value),vv=l/\c<=5/\o=.int .i64 c/\wr.ownsRow (B+1) 140 4 vv (df f r n a++dp f r n a b++dF f r n a b c).length (cY (df f r n a++dp f r n a b++dF f r n a b c))/\Below (B+1) W2 wr) (λ_ o _=>5-(intOf o).toNat)
   case atStart=>exact⟨0,_,rfl,Q0,rfl,by rw[show dF f r n a b 0=[] from rfl,append_nil];exact HO.out,hbr⟩
   clear HO hbr;obtain⟨c,vv,rfl,aM,rfl,j,hbr⟩:=hrel;by_cases aN:c<5
   .have ak:(c:Int)<=4:=Q0
    have HLEN:Hid ((df f r n a++dp f r n a b++dF f r n a b c).length<=500):=by
     have aD:=rk f r n a;have aE:=wB f r n a b;have aF:=wC f r n a b c;show _<=_;simp only[length_append];omega
    have HS:Hid (∀l,gZ f r a b c=l->df f r n a++dp f r n a b++dF f r n a b (c+1)=df f r n a++dp f r n a b++dF f r n a b c++if l then[⟨n,a,b,c⟩] else[]):=λl ao=>by rw[AB,ao];simp only[append_assoc]
    generalize df f r n a++dp f r n a b++dF f r n a b c=O at*;have HO:=hid_ j;clear j;obtain⟨y0,y1,y2,y3,y4,S⟩:=HQ _ hbr
    have HCON:Hid (cT ⟨(a:Int),(b:Int),(c:Int)⟩=true):=by
     show _=_;simp[cT,bQ];omega
    have HOK:Hid (gZ f r a b c=((decide (a=0)||dj r 0)&&(decide (b=0)||dj r 1)&&(decide (c=0)||dj r 2)&&cS f ⟨a,b,c⟩ r.body)):=rfl;have ar:(Hid (a=0)/\¬(0:Int)<(a:Int))\/(Hid (¬a=0)/\(0:Int)<(a:Int)):=by by_cases h:a=0;exact .inl ⟨h,Q0⟩;exact .inr ⟨h,Q0⟩
    have aa:(Hid (b=0)/\¬(0:Int)<(b:Int))\/(Hid (¬b=0)/\(0:Int)<(b:Int)):=by by_cases h:b=0;exact .inl ⟨h,Q0⟩;exact .inr ⟨h,Q0⟩
    have D:(Hid (c=0)/\¬(0:Int)<(c:Int))\/(Hid (¬c=0)/\(0:Int)<(c:Int)):=by by_cases h:c=0;exact .inl ⟨h,Q0⟩;exact .inr ⟨h,Q0⟩
    have hsB:B+1<=wr.heap.size:=by have:=hbr.size;omega
    have Z:∀l,(wr.alloc l).cell? d=some (.slice A ps C)/\(wr.alloc l).cell? ⟨d,1,none⟩=some (.slice (some ⟨E,G,none⟩) i F):=λl=>by
     obtain⟨az,aA,_⟩:=HQ _ (hbr.alloc hsB l);exact⟨az,aA⟩
    rcases ar with⟨q,ah⟩|⟨q,ah⟩
    .skip;rcases aa with⟨eb,J⟩|⟨eb,J⟩
     .skip;rcases D with⟨ec,s⟩|⟨ec,s⟩
      .skip;have HG:Hid (gZ f r a b c=cS f ⟨a,b,c⟩ r.body):=by show _=_;rw[HOK.out];simp[q.out,eb.out,ec.out]
       exact aeZ
      cases hkc:dj r 2
      .exact ab0
      rw[hkc] at y4;have HG:Hid (gZ f r a b c=cS f ⟨a,b,c⟩ r.body):=by show _=_;rw[HOK.out];simp[q.out,eb.out,ec.out,hkc]
      exact aeZ
     cases hkb:dj r 1
     .exact aci
     rw[hkb] at y3;rcases D with⟨ec,s⟩|⟨ec,s⟩
     .skip;have HG:Hid (gZ f r a b c=cS f ⟨a,b,c⟩ r.body):=by show _=_;rw[HOK.out];simp[q.out,eb.out,hkb,ec.out]
      exact aeZ
     cases hkc:dj r 2
     .exact ab0
     rw[hkc] at y4;have HG:Hid (gZ f r a b c=cS f ⟨a,b,c⟩ r.body):=by show _=_;rw[HOK.out];simp[q.out,eb.out,hkb,ec.out,hkc]
     exact aeZ
    cases t:dj r 0
    .rw[t] at y2;have HB:Hid (gZ f r a b c=false):=by show _=_;rw[HOK.out];simp[q.out,t]
     exact YD
    rw[t] at y2;rcases aa with⟨eb,J⟩|⟨eb,J⟩
    .skip;rcases D with⟨ec,s⟩|⟨ec,s⟩
     .skip;have HG:Hid (gZ f r a b c=cS f ⟨a,b,c⟩ r.body):=by show _=_;rw[HOK.out];simp[q.out,t,eb.out,ec.out]
      exact aeZ
     cases hkc:dj r 2
     .exact ab0
     rw[hkc] at y4;have HG:Hid (gZ f r a b c=cS f ⟨a,b,c⟩ r.body):=by show _=_;rw[HOK.out];simp[q.out,t,eb.out,ec.out,hkc]
     exact aeZ
    cases hkb:dj r 1
    .exact aci
    rw[hkb] at y3;rcases D with⟨ec,s⟩|⟨ec,s⟩
    .skip;have HG:Hid (gZ f r a b c=cS f ⟨a,b,c⟩ r.body):=by show _=_;rw[HOK.out];simp[q.out,t,eb.out,hkb,ec.out]
     exact aeZ
    cases hkc:dj r 2
    .exact ab0
    rw[hkc] at y4;have HG:Hid (gZ f r a b c=cS f ⟨a,b,c⟩ r.body):=by show _=_;rw[HOK.out];simp[q.out,t,eb.out,hkb,ec.out,hkc]
    exact aeZ
   have ak:¬(c:Int)<=4:=Q0
   have HO:Hid (wr.ownsRow (B+1) 140 4 vv (df f r n a++dp f r n a (b+1)).length (cY (df f r n a++dp f r n a (b+1)))):=by
    obtain rfl:c=5:=Q0;rw[AA,<-append_assoc];exact j
   clear j;go_wp2_with fail;exact⟨⟨b+1,_,rfl,Q0,Rv,HO.out,hbr⟩,S6⟩
  have aj:¬(b:Int)<=4:=Q0
  have HO:Hid (wr.ownsRow (B+1) 140 4 vv (df f r n (a+1)).length (cY (df f r n (a+1)))):=by
   obtain rfl:b=5:=Q0;rw[Az];exact j
  clear j;go_wp2_with fail;exact⟨⟨a+1,_,rfl,Q0,Rv,HO.out,hbr⟩,S6⟩
 have ai:¬(a:Int)<=4:=Q0;have ae:Hid (∀b,vv.ownBlock=some b->d.heap.size<=b):=λb u=>by have:=(j.lt b u).1;omega
 have HO:Hid (cL wr vv (bI f r n)):=by
  obtain rfl:a=5:=Q0;exact tI j (by have:=rk f r n 5;show(df f r n 5).length<=_;omega)
 clear j;obtain⟨y0,y1,y2,y3,y4,S⟩:=HQ _ hbr;go_wp2_with fail;go_ret;exact⟨_,rfl,HO.out,ae.out,S⟩
theorem GA(a:World)(h i g c b f n)(r:bR a h c)(t:ck a i b)(o:bO a g f)(s:∀u∈b,cx c u=0)(p:bW c f=0)(q:n<b.length):Calls prog 95 #[.agg #[h,i],g,n] a λe j=>∃d,e=.returned d/\cL j d (bI f b[n] n)/\Below a a j:=
 (v_ a h i g c b f n r t o s p q).mono λ_ _ ⟨d,k,l,_,m⟩=>⟨d,k,l,m⟩
def ce(L:List Nat)(s:Int)(r:Rul):Bool:=decide ((bX L r.head.pred.toNat:Int)=s)
theorem aa_(h:p:=by
 rw[List.take_add_one,List.getElem?_eq_getElem h,List.flatMap_append]
 simp):p:=h
theorem Co{c:List Prd}{b:Rul->Bool}{f:List Fct}{a:List Rul}{n:Nat}(h:n<a.length):cK c b f (a.take (n+1))=cK c b f (a.take n)++if b a[n] then eV c f a[n] else[]:=by
 unfold cK;exact aa_
theorem Cn{c f b n k}(d:k<(bI f b n).length):(eV c f b).take (k+1)=(eV c f b).take k++[co c f b (bI f b n)[k].a]:=by
 rw[rF c f b n,List.take_add_one,List.getElem?_map,List.getElem?_eq_getElem d];rfl
theorem xy{ps f b n k}(d:k<(bI f b n).length):cS f (bI f b n)[k].a b.body=true/\cT (bI f b n)[k].a=true/\dl ps f b (bI f b n)[k].a=co ps f b (bI f b n)[k].a:=by
 have c:=(iG.1 (getElem_mem d)).2;refine⟨c.2.1,c.1,?_⟩;rw[dl,if_pos c.2.1]
theorem rC(a:Int->Int)(f c b):cA a f (c++[b])=cy a b (cA a f c):=by rw[xm];rfl
theorem xp(a:Int->Int)(f b c):gh a f (b++[c])=(gh a f b||dR a c (cA a f b)):=by rw[Ch];simp[gh]
theorem Vk(h:p:=by simpa using hlv):p:=h
theorem Vl(h:p:=by have:=l0;rwa[Nat.mul_one] at this):p:=h
theorem Vm(h:p:=by rw[<-hW6];exact Below.alloc hk (Below.size hk) _):p:=h
theorem Vn(h:p:=by rw[<-hW6];simp[go_sem]):p:=h
theorem Vo(h:p:=by rw[<-hW6];exact KS _ hk _ _ _ _):p:=h
theorem Vp(h:p:=by rw[<-hW6];simp[go_sem,z0,z1,z2,z3]):p:=h
theorem Yg(h:p:=by first|with_reducible exact Below.refl _ _|with_reducible exact Below.drew (Below.refl _ _)|with_reducible exact hk|with_reducible exact KA.out|with_reducible exact Below.drew KA.out|with_reducible exact Below.alloc hk (Below.size hk) _|with_reducible exact KS _ hk _ _ _ _):p:=h
theorem Zj(h:p:=by
 rw[hW6]
 obtain⟨c0,c1,_⟩:=KEEP _ k6
 clear hW6
 have kw6:=bt_ kr3 k6
 go_wp2_with fail
 refine(HAD W6 (j9.a k6 HF4.out) kw6).mono ?_
 rintro ex W7 ⟨u7,rfl,hf7,hb7⟩
 have k37:=hbr3.trans ((k6.trans (hb7.mono k6.size)).mono hbr3.size)
 go_wp2_with fail
 all_goals exact⟨⟨k+1,u7,rfl,Q0,Rv,by rw[HT1.out,xp];simp_all,by rw[HT1.out,rC];exact hf7,k37⟩,S6⟩):p:=h
theorem Z7(h:p:=by
 obtain⟨rb,ro,rc,e,hb,hc⟩:=cN hr hn
 exact⟨rb,ro,rc,e,hb,(bF hx hb).trans hc.1⟩):p:=h
theorem aaw(h:p:=by
 obtain⟨k,hk,e⟩:=fd.1 (gP (f_ (hre r hr')).1).1
 exact⟨k,e,Q0⟩):p:=h
theorem J_(l:World)(w E Q g h f)(s:Int)(j)(aH:bR l w g)(hr:ck l E h)(aB:bO l Q f)(v:bP g h=0)(M:bW g f=0)(ay:eX (cI h) g.length=some j)(bG:j.length=g.length):Calls prog 141 #[.agg #[w,E],Q,s] l λe n=>∃m,e=.returned (.tuple #[m,.bool (gh (bJ g) f (cK g (ce j s) f h))])/\j9 l n m (cA (bJ g) f (cK g (ce j s) f h))/\Below l l n:=by
 have hre:=eU v;obtain⟨z1,z2,z3⟩:=gN (gO v).1;have t:=hid_ λd (hx:Below l l d)=>an_ (bR.a hx aH) (an_ (ck.a hx hr) (bO.a hx aB));have aq:Hid (∀d,Below l l d->Calls prog 44 #[.agg #[w,E]] d λe n=>(∃p,e=.returned p/\dD n p j)/\Below d d n):=λd hx=>(pX d w E g h (t d hx).1 (t d hx).2.1 z1 z2 z3).mono λ_ _ ⟨⟨p,B,I⟩,J⟩=>⟨⟨p,B,I j ay⟩,J⟩;have aa:=hid_ (λd c hn hx=>GA d w E Q g h f c (t d hx).1 (t d hx).2.1 (t d hx).2.2 hre M hn);have ab:=hid_ (λd c hn p N hx=>tE d w E Q g h f c p (t d hx).1 (t d hx).2.1 (t d hx).2.2 hre M hn N);have ak:Hid (∀d F m i,j9 l d m F->bW g F=0->cw g i=true->Below l l d->Calls prog 98 #[w,m,.agg #[i.pred,i.a,i.b,i.val]] d λe n=>∃Z,e=.returned (.tuple #[Z,.bool (dR (bJ g) i F)])/\j9 l n Z (cy (bJ g) i F)/\Below d d n):=λd F m i B I J hx=>(vR d w m g F i.pred i.a i.b i.val (t d hx).1 B.1 I J).mono λ_ _ ⟨Z,B,I,bk,J⟩=>⟨Z,B,⟨I,(bk.a hx.size).2⟩,J⟩;have A:Hid ((∀r∈h,cx g r=0)/\bW g f=0):=⟨hre,M⟩;have ao:=hid_ (mB M);have ba:=hid_ (λd hx=>tk (t d hx).2.2)
 have bb:Hid (∀r∈h,∃e:Nat,r.head.pred=(e:Int)/\e<j.length):=λr hr'=>by
  exact aaw
 have bc:Hid (∀d c,(hn:c<h.length)->Below l l d->∃rb ro rc,E=.slice (some ⟨rb,ro,none⟩) h rc/\rb<l.heap.size/\d.cell? ⟨rb,ro+c*5,none⟩=some (.int .i64 h[c].head.pred)):=λd c hn hx=>by
  exact Z7
 clear hre M v z1 z2 z3 ay;obtain⟨aO,aP,rfl,_⟩:=aH;obtain⟨bt,rc,rfl,_⟩:=hr;obtain⟨bi,bj,rfl,_⟩:=aB;go_enter func141,ntmps141;go_wp2_with fail;refine(aq _ (bH _ _)).mono ?_;rintro e q ⟨⟨bN,rfl,aF⟩,ae⟩;have U:=cU (bH _ _) ae;have a3:=tX ae;have a9:=li_ aF;obtain⟨bv,bw,rfl,_⟩:=aF;clear ae aq;have ap:Hid ((q.alloc (.cells #[] 93)).ownsRow q.heap.size 93 4 (.slice (some ⟨q,0,none⟩) 0 0) ([]:List Fct).length (cB [])):=⟨rfl,.inr ⟨q,0,#[],rfl,le_refl _,heap_alloc_new q _,le_refl _,zero_le _,rfl,rfl⟩⟩;go_wp2_with(at_builtin;refine jo _ rfl _ _ rfl q.heap.size (.slice (some ⟨q,0,none⟩) 0 0) [] f ap rfl _ rfl (ba _ (U.alloc U.size _)) (by have:=ao.out;simp;omega) Q1 ?_;intro aV aW ag aE;have bl:Below q q aW:=(bH _ _).grown aE Q1 (λk hk=>Uu);clear aE);have a6:Hid (j9 l aW aV f):=⟨lz ag (by have:=ao.out;omega),(pD ag U.size).2⟩;clear ag ap;have bg:Hid (∀c,bW g (cA (bJ g) f (cK g (ce j s) f (h.take c)))=0):=λc=>lK A.out.2 (mL (λr hr=>A.out.1 r (List.mem_of_mem_take hr)) A.out.2);go_loopw [9,10,11] (λo ac D wr=>∃(c:Nat) (m:Value),m=o/\c<=h.length/\D=.int .i64 c/\ac=.bool (gh (bJ g) f (cK g (ce j s) f (h.take c)))/\j9 l wr m (cA (bJ g) f (cK g (ce j s) f (h.take c)))/\Below q q wr) (λ_ _ D _=>h.length-(intOf D).toNat)
 case atStart=>exact⟨0,aV,rfl,zero_le _,rfl,rfl,a6.out,bl⟩
 obtain⟨c,m,rfl,hn,rfl,rfl,aD,L⟩:=hrel;have V:=bt_ U L;have ai:=jL L a3;obtain⟨c0,c1,bB⟩:=id ai;have G:=hid_ aD;clear aD;by_cases C:c<h.length
 .obtain⟨rb,ro,bu,aI,bL,aT⟩:=bc wr c C V;obtain⟨rfl,rfl⟩:bt=some ⟨rb,ro,none⟩/\rc=bu:=by simpa using aI
  clear aI;obtain⟨e,v,aA⟩:=bb h[c] (getElem_mem C);rw[v] at aT;obtain⟨aM,aN,bn,hlv,bE,l0⟩:=cN (a9 wr L) aA;obtain⟨rfl,rfl⟩:bv=some ⟨aM,aN,none⟩/\bw=bn:=Vk;have aL:wr.cell? ⟨aM,aN+e,none⟩=some (.int .i64 (j[e]:Int)):=Vl;clear hlv l0
  have S:(bX j h[c].head.pred.toNat:Int)=(j[e]:Int):=by
   rw[v,Int.toNat_natCast];unfold bX;simp[aA]
  have bC:(e:Int)<(j.length:Int):=Q0;have bK:(c:Int)<(h.length:Int):=Q0;have O:Hid (cK g (ce j s) f (h.take (c+1))=cK g (ce j s) f (h.take c)++if ce j s h[c] then eV g f h[c] else[]):=Co C;by_cases T:(j[e]:Int)=s
  .have H:Hid (cK g (ce j s) f (h.take (c+1))=cK g (ce j s) f (h.take c)++eV g f h[c]):=by
    show _=_;rw[O.out,if_pos (by unfold ce;rw[S,T];simp)]
   have aj:=hid_ (λd hx=>aa d c C hx);have am:=hid_ (λd p N hx=>ab d c C p N hx)
   have ar:Hid (∀k,bW g (cA (bJ g) f (cK g (ce j s) f (h.take c)++(eV g f h[c]).take k))=0):=λk=>by
    rw[xm];exact lK (bg c) λd hx=>Cp (A.out.1 _ (getElem_mem C)) A.out.2 d (List.mem_of_mem_take hx)
   have al:=hid_ λp (N:cT p=true)=>kZ (A.out.1 _ (getElem_mem C)) A.out.2 N;clear O S v aa ab;generalize h[c]=r at*;generalize cK g (ce j s) f (h.take c)=P at*;rw[T] at aL;go_wp2_with fail;refine(aj _ V).mono ?_;rintro ex aX ⟨bQ,rfl,aJ,K⟩;have bm:=bt_ V K;have a4:=jL K ai;have bf:=ls_ aJ;have a7:=hid_ (j9.a K G.out);have ax:=bt_ L K;obtain⟨bx,bz,rfl,_⟩:=aJ;clear K c0 c1 aT aL G aj;have bd:Hid ((eV g f r).length=(bI f r c).length):=by show _=_;rw[rF g f r c,length_map]
   go_wp2_with fail;go_loopw [9,10,13] (λo ac D aY=>∃(k:Nat) (m:Value),m=o/\k<=(bI f r c).length/\D=.int .i64 k/\ac=.bool (gh (bJ g) f (P++(eV g f r).take k))/\j9 l aY m (cA (bJ g) f (P++(eV g f r).take k))/\Below aX aX aY) (λ_ _ D _=>(bI f r c).length-(intOf D).toNat)
   case atStart=>exact⟨0,m,rfl,zero_le _,rfl,Q1,by simpa using a7.out,Below.refl _ _⟩
   obtain⟨k,aU,rfl,hk,rfl,rfl,aC,hbr3⟩:=hrel;have kr3:=bt_ bm hbr3;have a5:=jL hbr3 a4;have HF4:=hid_ aC;clear aC;by_cases af:k<(bI f r c).length
   .obtain⟨X,Y,bA,aK,ah,bs,aQ,aR,aS⟩:=nj (bf _ hbr3) af;obtain⟨rfl,rfl⟩:bx=some ⟨X,Y,none⟩/\bz=bA:=by simpa using aK
    have HT1:Hid (P++(eV g f r).take (k+1)=P++(eV g f r).take k++[co g f r (bI f r c)[k].a]):=by show _=_;rw[Cn (n:=(c:Int)) af,append_assoc]
    obtain⟨au,ad,av⟩:=xy (ps:=g) (n:=(c:Int)) af
    have an:Hid (∀d,Below l l d->Calls prog 97 #[.agg #[.slice aO g aP,.slice (some ⟨rb,ro,none⟩) h rc],.slice bi f bj,c,.agg #[.int .i64 (bI f r c)[k].x,.int .i64 (bI f r c)[k].y,.int .i64 (bI f r c)[k].z]] d λe n=>e=.returned (.tuple #[.bool true,.agg #[.int .i64 (co g f r (bI f r c)[k].a).pred,.int .i64 (co g f r (bI f r c)[k].a).a,.int .i64 (co g f r (bI f r c)[k].a).b,.int .i64 (co g f r (bI f r c)[k].a).val]])/\Below d d n):=λd hx=>by
     have aw:=am d (bI f r c)[k].a ad hx;rw[au,av] at aw;exact aw
    have a8:=hid_ (al _ ad);generalize(bI f r c)[k]=W at*;generalize co g f r W.a=i at*;have bD:(k:Int)<((bI f r c).length:Int):=Q0;obtain⟨c0,c1,az⟩:=id a5;have HAD:=hid_ (λd B hx=>ak d _ aU i B (ar k) a8 hx);have KEEP:=hid_ λ(n:World)(hx:Below wr wr n)=>an_ ((bF hx az).trans c0) (an_ ((bF hx az).trans c1) (an_ ((bF hx ah).trans aQ) (an_ ((bF hx ah).trans aR) ((bF hx ah).trans aS))));have KA:Hid (Below wr wr (wr.alloc (.cells #[.int .i64 0,.int .i64 0,.int .i64 0,.int .i64 0] 93))):=bH _ _
    have KS:Hid (∀d,Below wr wr d->∀aZ a0 a1 a2,Below wr wr ((((d.setCell wr aZ).setCell ⟨wr,1,none⟩ a0).setCell ⟨wr,2,none⟩ a1).setCell ⟨wr,3,none⟩ a2)):=λd hx aZ a0 a1 a2=>by
     have e:∀o,wr.heap.size<=(⟨wr,o,none⟩:Addr).block:=λ_=>le_refl _;exact(((hx.setCell (e _) _).setCell (e _) _).setCell (e _) _).setCell (e _) _
    have bh:Hid (∀d,Below (wr.alloc (.cells #[.int .i64 0,.int .i64 0,.int .i64 0,.int .i64 0] 93)).drew.heap.size (wr.alloc (.cells #[.int .i64 0,.int .i64 0,.int .i64 0,.int .i64 0] 93)).drew d->d.cell? wr=some (.int .i64 0)/\d.cell? ⟨wr,1,none⟩=some (.int .i64 0)/\d.cell? ⟨wr,2,none⟩=some (.int .i64 0)/\d.cell? ⟨wr,3,none⟩=some (.int .i64 0)/\∀o,d.frozen? ⟨wr,o,none⟩=false):=λd hx=>by
     have aG:wr.heap.size<(wr.alloc (.cells #[.int .i64 0,.int .i64 0,.int .i64 0,.int .i64 0] 93)).drew.heap.size:=by simp[World.drew]
     have e:=λo=>bF hx (o:=o) aG;rw[e,e,e,e];refine⟨?_,?_,?_,?_,λo=>?_⟩;all_goals first|rw[(fR hx).2 _ _ aG]|skip
     all_goals simp[go_sem]
    clear am al ar ak au ad av aK c0 c1 bs aQ aR aS;go_wp2_with fail;go_region_held3 (λn=>n.cell? l=some (.slice aO g aP)/\n.cell? ⟨l,1,none⟩=some (.slice (some ⟨rb,ro,none⟩) h rc)/\n.cell? ⟨X,Y+k*4+1,none⟩=some (.int .i64 W.x)/\n.cell? ⟨X,Y+k*4+2,none⟩=some (.int .i64 W.y)/\n.cell? ⟨X,Y+k*4+3,none⟩=some (.int .i64 W.z)) (first|(refine KEEP _ ?_;exact Yg)) (first|(go_at_call 97;refine(an _ (kr3.trans (KA.out.drew.mono kr3.size))).mono ?_;rintro ex u ⟨rfl,R⟩;have hk:Below wr wr u:=KA.out.trans ((((Below.refl _ _).drew).trans R).mono KA.out.size);obtain⟨z0,z1,z2,z3,zf⟩:=bh _ R)|(go_at_call 97;refine(an _ kr3.drew).mono ?_;rintro ex u ⟨rfl,R⟩;have hk:Below wr wr u:=((Below.refl _ _).drew).trans R))
    .obtain⟨W6,hW6⟩:=ex_ (u.alloc (.cells #[i.pred,i.a,i.b,i.val] 93));have k6:Below wr wr W6:=Vm;obtain⟨bo,bp,bq,br⟩:W6.cell? u=some (.int .i64 i.pred)/\W6.cell? ⟨u,1,none⟩=some (.int .i64 i.a)/\W6.cell? ⟨u,2,none⟩=some (.int .i64 i.b)/\W6.cell? ⟨u,3,none⟩=some (.int .i64 i.val):=Vn;exact Zj
    obtain⟨W6,hW6⟩:=ex_ ((((u.setCell wr i.pred).setCell ⟨wr,1,none⟩ i.a).setCell ⟨wr,2,none⟩ i.b).setCell ⟨wr,3,none⟩ i.val);have k6:Below wr wr W6:=Vo;obtain⟨bo,bp,bq,br⟩:W6.cell? wr=some (.int .i64 i.pred)/\W6.cell? ⟨wr,1,none⟩=some (.int .i64 i.a)/\W6.cell? ⟨wr,2,none⟩=some (.int .i64 i.b)/\W6.cell? ⟨wr,3,none⟩=some (.int .i64 i.val):=Vp;exact Zj
   obtain rfl:k=(bI f r c).length:=Q0;have be:=hid_ (List.take_of_length_le (by rw[bd.out];exact le_refl _));rw[be.out] at HF4⊢;go_wp2_with fail;exact⟨⟨c+1,aU,rfl,Q0,Rv,by rw[H.out],by rw[H.out];exact HF4.out,ax.trans (hbr3.mono ax.size)⟩,S6⟩
  have bM:((j[e]:Int)==s)=false:=by simpa using T
  have H:Hid (cK g (ce j s) f (h.take (c+1))=cK g (ce j s) f (h.take c)):=by
   show _=_;rw[O.out,if_neg (by unfold ce;rw[S];simp[T]),append_nil]
  clear O S v aa ab;go_wp2_with fail;exact⟨⟨c+1,m,rfl,Q0,Rv,by rw[H.out],by rw[H.out];exact G.out,L⟩,S6⟩
 obtain rfl:c=h.length:=Q0;rw[List.take_length] at G⊢;go_wp2_with fail;refine bodyPost_ret (v:=.tuple #[m,.bool (gh (bJ g) f (cK g (ce j s) f h))]) (by simp[results,results141,go_sem]) rfl ?_;exact⟨m,rfl,G.out,V⟩
theorem Zs(h:p:=by
 go_wp2_with fail
 clear hW1
 go_quiet (fail)
 go_wp2_with fail
 go_ret
 refine⟨?_,b1.trans ⟨rfl,rfl,rfl,le_refl _,λ_ _=>rfl⟩⟩
 rw[HE.out]
 rfl):p:=h
theorem abv(h:p:=by
 show _=_
 unfold ce bX
 rw[he,Int.toNat_natCast]
 simp[hel]
 rfl):p:=h
theorem J9(a:World)(d f e:Nat)(y b)(s:Int)(c r)(v t:Nat)(h)(j i:Nat)(he:c.head.pred=(e:Int))(hel:e<b.length)(k:a.cell? d=some y)(l:a.cell? f=some (.int .i64 s))(m:dD a y b)(p:d<a.heap.size)(q:f<a.heap.size):Calls prog 154 #[.agg #[c.head.pred,.slice r v t,c.src,c.n,.slice h j i],.pointer (some ⟨d,0,none⟩),.pointer (some ⟨f,0,none⟩)] a λe A=>e=.returned (.bool (ce b s c))/\Below a a A:=by
 obtain⟨z,x,G,rfl,u,l0⟩:=cN m hel;have w:a.cell? ⟨z,x+e,none⟩=some (.int .i64 (b[e]:Int)):=Vl
 have HE:Hid (ce b s c=((b[e]:Int)==s)):=by
  exact abv
 rw[he];obtain⟨g,hW1⟩:=ex_ (a.alloc (.cells #[e,.slice r v t,c.src,c.n,.slice h j i] 58));have b1:Below a a g:=by rw[<-hW1];exact bH _ _
 have E:g.cell? a=some (.int .i64 (e:Int)):=UB;have B:=(bF (o:=0) b1 p).trans k;have C:=(bF (o:=0) b1 q).trans l;have D:=(bF (o:=x+e) b1 u).trans w;have F:(e:Int)<(b.length:Int):=Q0;generalize b[e]=H at*;clear k l m l0 w p q u;go_enter func154,ntmps154;exact Zs
theorem Kb(a:World)(h j i k m l b d c f g):Calls prog 156 #[.agg #[.slice h j i,.slice k m l],.slice b d c,.func (.func f) #[] g] a λe n=>e=.returned (.func (.func 197) #[] #[.pointer (some ⟨a,0,none⟩),.pointer (some ⟨a.heap.size+1+1,0,none⟩),.pointer (some ⟨a.heap.size+1,0,none⟩)])/\ n=((a.alloc (.cells #[.slice h j i,.slice k m l] 30)).alloc (.cells #[.slice b d c] 65)).alloc (.cells #[.func (.func f) #[] g] 173):=by
 go_enter func156,ntmps156;exact aer
theorem ZJ(h:p:=by
 have h:∀d:Nat,(Op.equalIn (d+1) 65 (.slice (some ad) f fc) (.slice none 0 0)).run prog w'=.ok false w':=λd=>by
  simp[Op.equalIn,run_underlying underlying65]
 simp only[binOp]
 simp[Op.equal,Op.maxDepth,h 9999]):p:=h
theorem ZM(h:p:=by
 have h:∀d:Nat,(Op.equalIn (d+1) 65 (.slice none 0 fc) (.slice none 0 0)).run prog w'=.ok true w':=λd=>by
  simp[Op.equalIn,run_underlying underlying65]
 simp only[binOp]
 simp[Op.equal,Op.maxDepth,h 9999]):p:=h
theorem J5(b:World)(k f)(l:bO b k f)(p:f.length<=500):Calls prog 155 #[k] b λe w'=>∃c,e=.returned c/\bO w' c f/\fW b c/\gw w' c/\Below b b w':=by
 have j:=hid_ (tk l);obtain⟨o,fc,rfl,s,g⟩:=l;cases o with
 |none=>
  have r:f=[]:=by
   rcases g with h|⟨w,y,h,_⟩
   .exact h
   cases h
  subst r
  have t:∀w',Sem.run prog (binOp .eql 65 (.slice none 0 fc) (.slice none 0 0)) w'=.ok (.bool true) w':=λw'=>by
   exact ZM
  clear p s j g;simp only[List.length_nil];go_enter func155,ntmps155;go_wp2_with fail;go_ret;exact⟨.slice none 0 0,rfl,ie _,qW _,qZ _,Below.refl _ _⟩
 |some ad=>
  clear g
  have t:∀w',Sem.run prog (binOp .eql 65 (.slice (some ad) f fc) (.slice none 0 0)) w'=.ok (.bool false) w':=λw'=>by
   exact ZJ
  go_enter func155,ntmps155;have n:Hid ((b.alloc (.cells #[] 93)).ownsRow b.heap.size 93 4 (.slice (some ⟨b,0,none⟩) 0 0) ([]:List Fct).length (cB [])):=⟨rfl,.inr ⟨b,0,#[],rfl,le_refl _,heap_alloc_new b _,le_refl _,zero_le _,rfl,rfl⟩⟩;go_wp2_with(at_builtin;refine jo _ rfl _ _ rfl b.heap.size (.slice (some ⟨b,0,none⟩) 0 0) [] f n rfl _ rfl (j.out.a (bH _ _)) RD Q1 ?_;intro u v i m;have q:Below b b v:=(bH _ _).grown m Q1 (λx hk=>Uu);clear m);go_ret;exact⟨u,rfl,lz i (by show f.length<=_;omega),pD i (le_refl _),tt i,q⟩
theorem oh(a:Int->Int)(b f):dL a [b] f=kX a f b:=by unfold dL;simp
theorem GN{b f d}(i:bW b f=0)(h:dL (bJ b) f d=true){a c}(j:cd f a=some c):∃g,cd d a=some g/\fF (bJ b (a/25)) c g:=(ka (cG i)).1 h a c j
theorem GP{d b}(a:cx d b=0)(f:0<=b.src):∃l,b.body[b.src.toNat]? =some l/\l.neg=false/\bJ d l.atom.pred=bJ d b.head.pred:=by
 have c:k9 d b=true:=by
  rw[cx] at a;split at a
  .contradiction
  split at a
  .contradiction
  split at a
  .contradiction
  split at a
  .contradiction
  unfold gB at a;split at a
  .contradiction
  split at a
  .contradiction
  split at a
  .contradiction
  rename_i h5;cases e:k9 d b
  .exact absurd ⟨f,e⟩ h5
  rfl
 unfold k9 at c;cases e:b.body[b.src.toNat]? with
 |none=>rw[e] at c;cases c
 |some l=>
  rw[e] at c;simp only[Option.map_some,Option.getD_some,and_eq_true,beq_iff_eq,Bool.not_eq_true'] at c;exact⟨l,rfl,c.1,c.2⟩
theorem GS{b f d a c}(g:cx b a=0)(j:bW b f=0)(p:bW b d=0)(m:cT c=true)(J:dL (bJ b) f d=true)(z:cS f c a.body=true):dL (bJ b) [co b f a c] [co b d a c]=true:=by
 have y:=kZ g j m;have M:=kZ g p m;have s:=(eR j).2.1;unfold dL;rw[List.all_cons,List.all_nil,Bool.and_true];unfold kX;have w:bL (co b f a c)=bL (co b d a c):=by simp only[bL,co]
 rw[w,eL,if_pos rfl]
 have D:fF (bJ b a.head.pred) (dI b f a c a.body) (dI b d a c a.body):=by
  have x:cp (bJ b a.head.pred) (dI b f a c a.body)=0:=by
   have:=y;unfold cw at this;simp only[and_eq_true,beq_iff_eq] at this;exact this.2.2.2.2.2
  by_cases i:0<=a.src/\a.src<(a.body.length:Int)
  .obtain⟨h,q,F,C⟩:=GP g i.1;have N:bJ b a.head.pred≠0:=λe=>by have:=((uu g).1 e).1;omega
   have H:=(gP (f_ g).1).1;have O:=kE.1 (rj s H).1;have k:bJ b a.head.pred=1\/bJ b a.head.pred=2\/bJ b a.head.pred=3:=Q0;have E:=mH k (uu g).2.1 (uu g).2.2;have r:=List.mem_of_getElem? q;have l:=all_eq_true.1 z h r;unfold lD kD at l;rw[F] at l;have I:=by simpa using l
   obtain⟨K,n⟩:=Option.isSome_iff_exists.1 I;obtain⟨L,A,o⟩:=GN j J n;have B:=(nS ((f_ g).2.1 h r) s m).2;have G:bL (cv c h.atom)/25=h.atom.pred:=(kC (iC B)).symm;rw[G,C] at o;rw[dI,if_pos i,dI,if_pos i,oU,oU,q];show fF _ (fG _ (eK f (bL (cv c h.atom))) _) (fG _ (eK d (bL (cv c h.atom))) _);have t:=rh j (bL (cv c h.atom));have u:=rh p (bL (cv c h.atom));refine Ii (mH k t.1 t.2) (mH k u.1 u.2) E ?_;unfold eK;rw[n,A];exact o
  have v:dI b f a c a.body.length=dI b d a c a.body.length:=by rw[dI,if_neg i,dI,if_neg i]
  rw[<-v];exact rl x
 show(dv (bJ b a.head.pred) (dI b f a c a.body) (dI b d a c a.body)==dI b d a c a.body)=true;rw[show dv (bJ b a.head.pred) (dI b f a c a.body) (dI b d a c a.body)=dI b d a c a.body from D];simp
