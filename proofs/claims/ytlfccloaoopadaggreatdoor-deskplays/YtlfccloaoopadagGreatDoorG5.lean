import Derived.WalkSpells
import Derived.ProofKit
import Derived.OpenShut
import Derived.WalkSmall
import Derived.WalkLawsBesides
import Derived.Outline
import Derived.SizedLaws
import Derived.Test.YtlfccloaoopadagGreatDoorG1
set_option maxRecDepth 100000
set_option maxHeartbeats 0
open List (any_eq_true filter_append getD_eq_getElem?_getD length_append length_cons length_map mem_cons mem_map mem_range pairwise_cons replicate sum_cons)
open Nat (le_refl zero_le)
open Option.some (inj)
namespace Go.Proofs.YtlfccloaoopadagGreatDoor
open Go.RowKit
variable{p:Prop}
structure Tm where
 var:Bool
 n:Int
structure Atm where
 pred:Int
 args:List Tm
structure Ltr where
 neg:Bool
 atom:Atm
structure Rul where
 head:Atm
 src:Int
 n:Int
 body:List Ltr
structure Prd where
 name:ByteArray
 arity:Int
 kind:Int
structure Fct where
 pred:Int
 a:Int
 b:Int
 val:Int
def jm{α:Type}(sz:Nat)(At:World->Nat->Nat->α->Prop)(w:World)(v:Value)(xs:List α):Prop:=
 ∃a cap,v=.slice a xs cap/\xs.length<=140737488355328/\(xs=[]\/∃b off,a=some ⟨b,off,none⟩/\b<w.heap.size/\∀i x,xs[i]? =some x->At w b (off+i*sz) x)
def oM(w:World)(b o:Nat)(t:Tm):Prop:=w.cell? ⟨b,o,none⟩=some (.bool t.var)/\w.cell? ⟨b,o+1,none⟩=some (.int .i64 t.n)
abbrev cr:World->Value->List Tm->Prop:=jm 2 oM
def oL(w:World)(b o:Nat)(l:Ltr):Prop:=
 w.cell? ⟨b,o,none⟩=some (.bool l.neg)/\w.cell? ⟨b,o+1,none⟩=some (.int .i64 l.atom.pred)/\∃v,w.cell? ⟨b,o+2,none⟩=some v/\cr w v l.atom.args
abbrev dC:World->Value->List Ltr->Prop:=jm 3 oL
def py(w:World)(b o:Nat)(p:Prd):Prop:=
 w.cell? ⟨b,o,none⟩=some (.string p.name)/\w.cell? ⟨b,o+1,none⟩=some (.int .i64 p.arity)/\w.cell? ⟨b,o+2,none⟩=some (.int .i64 p.kind)
abbrev bR:World->Value->List Prd->Prop:=jm 3 py
def zk(w:World)(b o:Nat)(r:Rul):Prop:=
 w.cell? ⟨b,o,none⟩=some (.int .i64 r.head.pred)/\(∃v,w.cell? ⟨b,o+1,none⟩=some v/\cr w v r.head.args)/\w.cell? ⟨b,o+2,none⟩=some (.int .i64 r.src)/\ w.cell? ⟨b,o+3,none⟩=some (.int .i64 r.n)/\∃v,w.cell? ⟨b,o+4,none⟩=some v/\dC w v r.body
abbrev ck:World->Value->List Rul->Prop:=jm 5 zk
def FG(w:World)(b o:Nat)(a:Atm):Prop:=w.cell? ⟨b,o,none⟩=some (.int .i64 a.pred)/\∃v,w.cell? ⟨b,o+1,none⟩=some v/\cr w v a.args
abbrev tf:World->Value->List Atm->Prop:=jm 2 FG
def m7(w:World)(b o:Nat)(f:Fct):Prop:=
 w.cell? ⟨b,o,none⟩=some (.int .i64 f.pred)/\w.cell? ⟨b,o+1,none⟩=some (.int .i64 f.a)/\w.cell? ⟨b,o+2,none⟩=some (.int .i64 f.b)/\w.cell? ⟨b,o+3,none⟩=some (.int .i64 f.val)
abbrev bO:World->Value->List Fct->Prop:=jm 4 m7
def nT{α:Type}(At:World->Nat->Nat->α->Prop):Prop:=∀(w w':World) (b o:Nat) (x:α),Below w w w'->b<w.heap.size->At w b o x->At w' b o x
theorem jm.a{n:Type}{j}{d:World->Nat->Nat->n->Prop}(q:nT d){c f:World}{k m}(h:Below c c f)(u:jm j d c k m):jm j d f k m:=by
 obtain⟨o,p,v,t,b⟩:=u;refine⟨o,p,v,t,?_⟩;rcases b with b|⟨g,x,r,i,b⟩
 .exact .inl b
 exact .inr ⟨g,x,r,Nat.lt_of_lt_of_le i h.size,λw l s=>q c f g _ l h i (b w l s)⟩
theorem bF{b c:World}(f:Below b b c){a o}(d:a<b.heap.size):c.cell? ⟨a,o,none⟩=b.cell? ⟨a,o,none⟩:=f.cell (p:=⟨a,o,none⟩) d
theorem Rb(h:p:=by rw[bF hb hlt,h1]):p:=h
theorem Rc(h:p:=by rw[bF hb hlt,h2]):p:=h
theorem oM.a:nT oM:=λc d b o f hb hlt ⟨h1,h2⟩=>⟨Rb,Rc⟩
theorem cr.a{b d:World}{c f}(h:Below b b d)(g:cr b c f):cr d c f:=jm.a oM.a h g
theorem oL.b:nT oL:=λh i g o j hb hlt ⟨h1,h2,f,c,d⟩=>⟨Rb,Rc,f,by rw[bF hb hlt,c],cr.a hb d⟩
theorem dC.a{c f:World}{d g}(i:Below c c f)(h:dC c d g):dC f d g:=jm.a oL.b i h
theorem py.a:nT py:=λd f c o g hb hlt ⟨h1,h2,b⟩=>⟨Rb,Rc,by rw[bF hb hlt,b]⟩
theorem bR.a{b d:World}{c f}(h:Below b b d)(g:bR b c f):bR d c f:=jm.a py.a h g
theorem zk.a:nT zk:=λk l j o m hb hlt ⟨h1,⟨i,h2,b⟩,c,d,h,f,g⟩=>⟨Rb,⟨i,Rc,cr.a hb b⟩,by rw[bF hb hlt,c],by rw[bF hb hlt,d],h,by rw[bF hb hlt,f],dC.a hb g⟩
theorem ck.a{b d:World}{c f}(h:Below b b d)(g:ck b c f):ck d c f:=jm.a zk.a h g
theorem m7.a:nT m7:=λf g d o h hb hlt ⟨h1,h2,b,c⟩=>⟨Rb,Rc,by rw[bF hb hlt,b],by rw[bF hb hlt,c]⟩
theorem bO.a{b d:World}{c f}(h:Below b b d)(g:bO b c f):bO d c f:=jm.a m7.a h g
theorem fR{b d:World}(f:Below b b d):(∀a o,a<b.heap.size->d.cell? ⟨a,o,none⟩=b.cell? ⟨a,o,none⟩)/\(∀a o,a<b.heap.size->d.frozen? ⟨a,o,none⟩=b.frozen? ⟨a,o,none⟩):=
 ⟨λa o c=>f.cell (p:=⟨a,o,none⟩) c,λa o c=>f.frozen (p:=⟨a,o,none⟩) c⟩
theorem cU{a b d:World}(c:Below a a b)(f:Below b b d):Below a a d:=c.trans (f.mono c.size)
theorem j5{b:Type}{p:b->Bool}{a:List b}{k:Nat}(c:k<a.length):(a.take (k+1)).any p=((a.take k).any p||p a[k]):=by
 rw[List.take_succ_eq_append_getElem c];simp only[List.any_append,List.any_cons,List.any_nil,Bool.or_false]
theorem mz{b:Type}{p:b->Bool}{a:List b}{k:Nat}(c:k<a.length):(a.take (k+1)).all p=((a.take k).all p&&p a[k]):=by
 rw[List.take_succ_eq_append_getElem c];simp only[List.all_append,List.all_cons,List.all_nil,Bool.and_true]
theorem mZ{b:Type}{p:b->Bool}{a:List b}{k:Nat}(c:k<a.length)(d:p a[k]=true):a.any p=true:=any_eq_true.2 ⟨a[k],List.getElem_mem c,d⟩
theorem qN{b:Type}{p:b->Bool}{a:List b}{k:Nat}(c:k<a.length)(d:p a[k]=false):a.all p=false:=List.all_eq_false.2 ⟨a[k],List.getElem_mem c,by simp[d]⟩
theorem Rd(h:p:=by rwa[List.take_of_length_le (by omega)] at hp):p:=h
theorem l8{b:Type}{p:b->Bool}{a:List b}{k:Nat}(c:¬k<a.length)(hp:(a.take k).any p=false):a.any p=false:=Rd
theorem nQ{b:Type}{p:b->Bool}{a:List b}{k:Nat}(c:¬k<a.length)(hp:(a.take k).all p=true):a.all p=true:=Rd
theorem pz{a b}(c:a=b):Ending.returned (.bool a)=.returned (.bool b):=by rw[c]
theorem eJ{k a b}(c:a=b):Ending.returned (.int k a)=.returned (.int k b):=by rw[c]
theorem bH(a:World)(o):Below a a (a.alloc o):=(Below.refl _ _).alloc (le_refl _) o
theorem fC{c:World}{a b x}(d:c.cell? a=some x):(c.setCell a b).cell? a=some b:=by simp[go_sem,d]
theorem cP{c:World}{a o b f}(d:o≠b):(c.setCell ⟨a,o,none⟩ f).cell? ⟨a,b,none⟩=c.cell? ⟨a,b,none⟩:=World.cell?_setCell_other c _ _ _ (λe=>d (by cases e;rfl))
theorem cb{b:World}{c a o d g}(f:c≠a):(b.setCell ⟨c,o,none⟩ g).cell? ⟨a,d,none⟩=b.cell? ⟨a,d,none⟩:=World.cell?_setCell_other b _ _ _ (λe=>f (by cases e;rfl))
theorem Re(h:p:=by simp[go_sem]):p:=h
theorem gI{b:World}{c a d}:(b.setCell c d).frozen? a=b.frozen? a:=Re
theorem cF{a:World}{b c}:(a.setCell b c).heap.size=a.heap.size:=by simp[World.setCell]
theorem oL.a{d:World}{f o l}(g:oL d f o l):d.cell? ⟨f,o,none⟩=some (.bool l.neg)/\d.cell? ⟨f,o+1,none⟩=some (.int .i64 l.atom.pred)/\ ∃b c,d.cell? ⟨f,o+2,none⟩=some (.slice b l.atom.args c)/\cr d (.slice b l.atom.args c) l.atom.args:=by
 obtain⟨h,i,n,j,k⟩:=g;obtain⟨b,c,rfl,m⟩:=k;exact⟨h,i,b,c,j,⟨b,c,rfl,m⟩⟩
def j6:List (Atm×Value)->List Value
 |[]=>[]
 |(a,v)::l=>.int .i64 a.pred::v::j6 l
theorem zj:∀l a,j6 (l++a)=j6 l++j6 a
 |[],a=>rfl
 |x::l,a=>by simp only[List.cons_append,j6,zj l a]
theorem Rf(h:p:=by simp at h):p:=h
theorem Rg(h:p:=by simpa using h):p:=h
theorem FI:∀(l:List (Atm×Value)) (a:Nat) (b:Atm) (c:Value),l[a]? =some (b,c)->(j6 l)[a*2]? =some (.int .i64 b.pred)/\(j6 l)[a*2+1]? =some c
 |[],a,b,c,h=>Rf
 |x::l,0,b,c,h=>by
  obtain rfl:x=(b,c):=Rg
  exact⟨rfl,rfl⟩
 |x::l,a+1,b,c,h=>by
  have:=FI l a b c Rg
  rw[show(a+1)*2=a*2+2 by omega]
  simpa[j6] using this
theorem Rh(h:p:=by simp):p:=h
theorem Ri(h:p:=by rw[length_map];exact hl):p:=h
theorem Rj(h:p:=by rw[length_map]):p:=h
theorem Z2(h:p:=by
 have:=(List.getElem?_eq_some_iff.1 hz).1
 simp at this
 omega):p:=h
theorem aba(h:p:=by
 rw[List.getElem?_take_of_lt hj] at hz
 simp[World.cell?,hg]
 simpa using hz):p:=h
theorem FH{b:World}{base e m}{l:List (Atm×Value)}(p:b.ownsRow base e 2 m l (j6 l))(hl:l.length<=140737488355328)(s:∀d∈l,cr b d.2 d.1.args):tf b m (l.map Prod.fst):=by
 obtain⟨z,q⟩:=p;rcases q with⟨rfl,r⟩|⟨g,o,y,rfl,A,hg,B,D,E,t⟩
 .have:l=[]:=List.eq_nil_of_length_eq_zero r;subst this;exact⟨none,0,rfl,Rh,.inl rfl⟩
 refine⟨_,o,Rj,Ri,.inr ⟨g,0,rfl,?_,?_⟩⟩
 .exact(Array.getElem?_eq_some_iff.1 hg).1
 intro u d i;rw[List.getElem?_map] at i;obtain⟨⟨n,k⟩,c,rfl⟩:=Option.map_eq_some_iff.1 i;have C:=(List.getElem?_eq_some_iff.1 c).1;obtain⟨v,w⟩:=FI l u n k c
 have h:∀a f,(j6 l)[a]? =some f->b.cell? ⟨g,0+a,none⟩=some f:=by
  intro a f hz;rw[<-t] at hz
  have hj:a<l.length*2:=by
   exact Z2
  exact aba
 have x:=h _ _ v;have j:=h _ _ w;exact⟨x,k,by rw[<-Nat.add_assoc] at j;exact j,s _ (List.mem_of_getElem? c)⟩
theorem lp_{w:World}{v l}(h:bR w v l):Go.RowKit.Hid (∀x,Below w.heap.size w x→bR x v l):=fun _ k=>bR.a k h
theorem lr_{w:World}{v l}(h:ck w v l):Go.RowKit.Hid (∀x,Below w.heap.size w x→ck x v l):=fun _ k=>ck.a k h
theorem lf_{w:World}{v l}(h:bO w v l):Go.RowKit.Hid (∀x,Below w.heap.size w x→bO x v l):=fun _ k=>bO.a k h
theorem lt_{w:World}{v l}(h:cr w v l):Go.RowKit.Hid (∀x,Below w.heap.size w x→cr x v l):=fun _ k=>cr.a k h
theorem lb_{w:World}{v l}(h:dC w v l):Go.RowKit.Hid (∀x,Below w.heap.size w x→dC x v l):=fun _ k=>dC.a k h
structure ai where
 h:Nat
 b:Nat
 neg:Bool
def ai.a(e:ai):Nat:=if e.neg then 1 else 0
def bX(l:List Nat)(k:Nat):Nat:=l.getD k 0
def ir(l:List Nat)(e:ai):List Nat:=if bX l e.h<bX l e.b+e.a then l.set e.h (bX l e.b+e.a) else l
def hM(E:List ai)(l:List Nat):List Nat:=E.foldl ir l
def k_(E:List ai):Nat->List Nat->Option (List Nat)
 |0,_=>none
 |f+1,l=>if hM E l=l then some l else k_ E f (hM E l)
def eX(E:List ai)(n:Nat):Option (List Nat):=k_ E (n*n+2) (replicate n 0)
def kh(E:List ai)(s:Nat->Nat):Prop:=∀e∈E,s e.b+e.a<=s e.h
def gS(E:List ai)(n:Nat):Prop:=∀e∈E,e.h<n/\e.b<n
theorem ZQ(h:p:=by
 by_cases e:k=h
 .subst e
  rw[if_pos rfl,getD_eq_getElem?_getD,List.getElem?_set_self hh]
  rfl
 rw[if_neg e,getD_eq_getElem?_getD,List.getElem?_set_ne (λq=>e q.symm),getD_eq_getElem?_getD]):p:=h
theorem aa8(h:p:=by
 subst e
 rw[if_pos rfl,getD_eq_getElem?_getD,List.getElem?_set_self hh]
 rfl):p:=h
theorem nA{l h a k}(hh:h<l.length):bX (l.set h a) k=if k=h then a else bX l k:=by
 unfold bX;exact ZQ
theorem C5{l a}(b:l.length=a.length)(f:∀k,bX l k=bX a k):l=a:=by
 apply List.ext_getElem b;intro k c d;have:=f k;unfold bX at this;rw[getD_eq_getElem?_getD,getD_eq_getElem?_getD,List.getElem?_eq_getElem c,List.getElem?_eq_getElem d] at this;exact this
theorem rQ(l e):(ir l e).length=l.length:=by
 unfold ir;split<;>simp
theorem rP(a):∀l,(hM a l).length=l.length:=by
 induction a with
 |nil=>intro l;rfl
 |cons e a ih=>intro l;show(hM a (ir l e)).length=_;rw[ih,rQ]
theorem Db{l e}(a:e.h<l.length)(k):bX l k<=bX (ir l e) k:=by
 unfold ir;split
 .rename_i h;rw[nA a];split
  .rename_i q;subst q;omega
  omega
 omega
theorem Rk(h:p:=by rw[hl];exact(hE e (by simp)).1):p:=h
theorem Rl(h:p:=by simp[hx]):p:=h
theorem xN{a n}(hE:gS a n):∀{l:List Nat},l.length=n->∀k,bX l k<=bX (hM a l) k:=by
 induction a with
 |nil=>intro l _ k;exact le_refl _
 |cons e a ih=>
  intro l hl k;have b:=Db (l:=l) (e:=e) Rk k;have c:=ih (λd hx=>hE d Rl) (l:=ir l e) (by rw[rQ];exact hl) k;exact Nat.le_trans b c
theorem L7{l e}{s:Nat->Nat}(d:e.h<l.length)(f:s e.b+e.a<=s e.h)(c:∀k,bX l k<=s k)(k):bX (ir l e) k<=s k:=by
 unfold ir;split
 .rw[nA d];split
  .rename_i q;subst q;have:=c e.b;omega
  exact c k
 exact c k
theorem C7{a n}{s:Nat->Nat}(hE:gS a n)(d:kh a s):∀{l:List Nat},l.length=n->(∀k,bX l k<=s k)->∀k,bX (hM a l) k<=s k:=by
 induction a with
 |nil=>intro l _ b;exact b
 |cons e a ih=>
  intro l hl b;exact ih (λc hx=>hE c Rl) (λc hx=>d c Rl) (by rw[rQ];exact hl) (L7 Rk (d e Rh) b)
theorem LY{d n}(hE:gS d n){l}(hl:l.length=n)(m:hM d l=l):kh d (bX l):=by
 induction d with
 |nil=>intro e p;cases p
 |cons e d ih=>
  have i:gS d n:=λc hx=>hE c Rl;have j:e.h<l.length:=Rk;have g:hM d (ir l e)=l:=m
  have f:ir l e=l:=by
   refine C5 (rQ l e) λk=>?_;have r:=Db (l:=l) (e:=e) j k;have o:=xN i (l:=ir l e) (by rw[rQ];exact hl) k;rw[g] at o;omega
  rw[f] at g;intro c hx;rcases mem_cons.1 hx with rfl|hx
  .unfold ir at f;split at f
   .rename_i q;have:bX (l.set c.h (bX l c.b+c.a)) c.h=bX l c.h:=by rw[f]
    rw[nA j,if_pos rfl] at this;omega
   omega
  exact ih i g c hx
theorem Rm(h:p:=by cases h):p:=h
theorem C9{b}:∀{f:Nat} {l a:List Nat},k_ b f l=some a->a.length=l.length
 |0,l,a,h=>Rm
 |f+1,l,a,h=>by
  rw[k_] at h
  split at h
  .rw[<-inj h]
  rw[C9 h,rP]
theorem Da{a n}(d:gS a n):∀{f:Nat} {l b:List Nat},l.length=n->k_ a f l=some b->kh a (bX b)/\∀s,kh a s->(∀k,bX l k<=s k)->∀k,bX b k<=s k
 |0,l,b,_,h=>Rm
 |f+1,l,b,g,h=>by
  rw[k_] at h
  split at h
  .rename_i hfix
   obtain rfl:=inj h
   exact⟨LY d g hfix,λs _ c=>c⟩
  obtain⟨i,j⟩:=Da d (l:=hM a l) (by rw[rP];exact g) h
  exact⟨i,λs c m=>j s c (C7 d c g m)⟩
theorem Rn(h:p:=by simp[hy]):p:=h
theorem C6{d:Type}[DecidableEq d]:∀{l m:List d},l.Nodup->(∀x∈l,x∈m)->l.length<=m.length
 |[],m,_,_=>zero_le _
 |x::l,m,h,a=>by
  obtain⟨f,g⟩:=List.nodup_cons.1 h
  have b:=a x Rh
  have:=C6 (l:=l) (m:=m.erase x) g (λc hy=>by
   have i:c≠x:=λj=>f (j▸hy)
   exact(List.mem_erase_of_ne i).2 (a c Rn))
  rw[List.length_erase_of_mem b] at this
  have k:=List.length_pos_of_mem b
  simp only[length_cons]
  omega
def uI(s:Nat->Nat)(n v:Nat):Bool:=(List.range n).any λj=>s j==v
def mP(s:Nat->Nat)(n k:Nat):Nat:=((List.range (s k)).filter (uI s n)).length
theorem LX{s:Nat->Nat}{n a b}(c:s a<=s b):mP s n a<=mP s n b:=by
 unfold mP;obtain⟨f,d⟩:=Nat.exists_eq_add_of_le c;rw[d,List.range_add,filter_append,length_append];omega
theorem LW{s:Nat->Nat}{n a b}(d:a<n)(c:s a<s b):mP s n a+1<=mP s n b:=by
 unfold mP;obtain⟨g,f⟩:=Nat.exists_eq_add_of_le (show s a+1<=s b from c);rw[f,List.range_add,List.range_succ,filter_append,filter_append,length_append,length_append]
 have:(List.filter (uI s n) [s a]).length=1:=by
  rw[List.filter_cons,if_pos]
  .rfl
  exact any_eq_true.2 ⟨a,mem_range.2 d,Rh⟩
 omega
theorem Ro(h:p:=by simpa using he):p:=h
theorem xL{s:Nat->Nat}{n k}(f:k<n):mP s n k<n:=by
 have g:(((List.range (s k)).filter (uI s n))++[s k]).Nodup:=by
  rw[List.nodup_append];refine⟨List.Pairwise.filter _ List.nodup_range,Rh,?_⟩;intro j b l c;have m:=mem_range.1 (List.mem_filter.1 b).1;simp at c;omega
 have h:∀a∈((List.range (s k)).filter (uI s n))++[s k],a∈(List.range n).map s:=by
  intro a hx;rcases List.mem_append.1 hx with hx|hx
  .obtain⟨i,d,he⟩:=any_eq_true.1 (List.mem_filter.1 hx).2;exact mem_map.2 ⟨i,d,Ro⟩
  simp at hx;subst hx;exact mem_map.2 ⟨k,mem_range.2 f,rfl⟩
 have:=C6 g h;simp only[length_append,length_cons,List.length_nil,length_map,List.length_range] at this;unfold mP;omega
theorem Rp(h:p:=by omega):p:=h
theorem xM{b n}{s:Nat->Nat}(g:gS b n)(h:kh b s):kh b (mP s n):=by
 intro e d;have c:=h e d;have f:=g e d;unfold ai.a at*;split
 .rename_i hn;rw[if_pos hn] at c;exact LW f.2 Rp
 rename_i hn;rw[if_neg hn] at c;exact LX Rp
theorem Rq(h:p:=by simpa using hk):p:=h
theorem uG{c}:∀{l:List Nat},(∀k,k<l.length->bX l k<=c)->l.sum<=l.length*c
 |[],_=>Rh
 |x::l,a=>by
  have b:x<=c:=a 0 Rh
  have d:=uG (l:=l) (λk hk=>a (k+1) Rq)
  simp only[sum_cons,length_cons,Nat.succ_mul]
  omega
theorem Dd:∀{l m:List Nat},l.length=m.length->(∀k,bX l k<=bX m k)->l.sum<=m.sum
 |[],[],_,_=>le_refl _
 |[],b::m,h,_=>Rf
 |x::l,[],h,_=>Rf
 |x::l,b::m,h,a=>by
  have c:x<=b:=a 0
  have d:=Dd (l:=l) (m:=m) Rg (λk=>a (k+1))
  simp only[sum_cons]
  omega
theorem uH:∀{l a:List Nat},l.length=a.length->(∀k,bX l k<=bX a k)->l≠a->l.sum<a.sum
 |[],[],_,_,h=>absurd rfl h
 |[],b::a,h,_,_=>Rf
 |x::l,[],h,_,_=>Rf
 |x::l,b::a,h,d,i=>by
  have m:x<=b:=d 0
  have c:=Rg
  have f:∀k,bX l k<=bX a k:=λk=>d (k+1)
  by_cases e:x=b
  .subst e
   have g:=uH c f (λj=>i (by rw[j]))
   simp only[sum_cons]
   omega
  have g:=Dd c f
  simp only[sum_cons]
  omega
theorem C_{b n}(c:gS b n){s:Nat->Nat}(g:kh b s):∀{f:Nat} {l:List Nat},l.length=n->(∀k,bX l k<=mP s n k)->n*n<l.sum+f->k_ b f l≠none
 |0,l,a,d,h=>by
  exfalso
  have:l.sum<=l.length*n:=uG (λk o=>Nat.le_trans (d k) (Nat.le_of_lt (xL Rp)))
  rw[a] at this
  omega
 |f+1,l,a,d,h=>by
  rw[k_]
  split
  .simp
  rename_i hne
  have i:=(rP b l).symm
  have m:=uH i (xN c a) (λj=>hne j.symm)
  exact C_ c g (by rw[rP];exact a) (C7 c (xM c g) a d) Rp
theorem rS(n k):bX (replicate n 0) k=0:=by
 unfold bX;rw[getD_eq_getElem?_getD,List.getElem?_replicate];split<;>rfl
theorem Rr(h:p:=by rw[rS];exact zero_le _):p:=h
theorem o9{a n}(f:gS a n){l}(b:eX a n=some l):l.length=n/\kh a (bX l)/\(∀s,kh a s->∀k,bX l k<=s k):=by
 obtain⟨c,d⟩:=Da f Rh b;exact⟨by rw[C9 b];simp,c,λs g=>d s g (λk=>Rr)⟩
theorem Dc{a n}(c:gS a n)(b:eX a n=none)(s:Nat->Nat):¬kh a s:=λd=>
 C_ c d Rh (λf=>Rr) Rh b
theorem L8{a n}(d:gS a n){l}(j:l.length=n)(c:kh a (bX l))(h:∀s,kh a s->∀k,bX l k<=s k):eX a n=some l:=by
 cases b:eX a n with
 |none=>exact absurd c (Dc d b _)
 |some m=>
  obtain⟨i,f,g⟩:=o9 d b;congr 1;exact C5 Rp λk=>Nat.le_antisymm (g _ c k) (h _ f k)
theorem rR{a n}(b:gS a n){l}(f:eX a n=some l){k}(g:k<n):bX l k<n:=by
 obtain⟨_,c,d⟩:=o9 b f;exact Nat.lt_of_le_of_lt (d _ (xM b c) k) (xL g)
structure aQ (E:List ai) (n:Nat) (l:List Nat):Prop where
 len:l.length=n
 small:∀k,k<n->bX l k<n
 least:∀s,kh E s->∀k,bX l k<=s k
def mm(l:List Nat)(e:ai):List Nat:=l.set e.h (bX l e.b+e.a)
theorem LS(a n):aQ a n (replicate n 0):=
 ⟨Rh,λb c=>by rw[rS];omega,λd _ b=>Rr⟩
theorem L9(e:ai):e.a<=1:=by unfold ai.a;split<;>omega
theorem xK{d n l e}(o:gS d n)(c:aQ d n l)(j:e∈d)(s:bX l e.b+e.a≠n):aQ d n (mm l e):=by
 have i:=o e j;have r:=c.small e.b i.2;have t:=L9 e;have k:e.h<l.length:=by rw[c.len];exact i.1
 refine⟨by rw[mm,List.length_set,c.len],λg p=>?_,λm f g=>?_⟩
 .rw[mm,nA k];split
  .omega
  exact c.small g p
 rw[mm,nA k];split
 .rename_i q;subst q;have:=c.least m f e.b;have:=f e j;omega
 exact c.least m f g
theorem LU{c n l e}(i:gS c n)(g:aQ c n l)(j:e∈c)(k:bX l e.h<bX l e.b+e.a):l.sum<(mm l e).sum:=by
 have f:e.h<l.length:=by rw[g.len];exact(i e j).1
 refine uH (by rw[mm,List.length_set]) (λm=>?_) (λd=>?_)
 .rw[mm,nA f];split
  .rename_i d;subst d;omega
  exact le_refl _
 have:bX l e.h=bX (mm l e) e.h:=by rw[<-d]
 rw[mm,nA f,if_pos rfl] at this;omega
theorem LR{b n l}(a:aQ b n l):l.sum<=n*n:=by
 have:=uG (c:=n) (l:=l) (λf d=>Nat.le_of_lt (a.small f (by rw[<-a.len];exact d)));rwa[a.len] at this
theorem LQ{c n l e}(d:gS c n)(i:aQ c n l)(f:e∈c)(q:bX l e.b+e.a=n):eX c n=none:=by
 cases j:eX c n with
 |none=>rfl
 |some k=>
  exfalso;obtain⟨_,h,_⟩:=o9 d j;have g:=xM d h;have m:=i.least _ g e.b;have o:=g e f;have p:=xL (s:=bX k) (d e f).1;omega
theorem LO{c n l}(f:gS c n)(d:aQ c n l)(g:∀e∈c,¬bX l e.h<bX l e.b+e.a):eX c n=some l:=
 L8 f d.len (λe i=>by have:=g e i;omega) d.least
theorem LZ{d n}(j:gS d n){l c e}(k:e.h<n)(f:l.length=n)(g:c=hM d l)(o:bX c e.h<bX c e.b+e.a):ir c e≠l:=by
 intro p;have i:=xN j f e.h;rw[<-g] at i;have m:c.length=n:=by rw[g,rP,f]
 have:bX (ir c e) e.h=bX c e.b+e.a:=by
  rw[ir,if_pos o,nA (by rw[m];exact k),if_pos rfl]
 rw[p] at this;omega
theorem C8(a e l):hM (a++[e]) l=ir (hM a l) e:=by
 unfold hM;rw[List.foldl_append];rfl
def ki(l:List Bool)(k:Nat):Bool:=l.getD k false
theorem qh{l h k a}(hh:h<l.length):ki (l.set h a) k=if k=h then a else ki l k:=by
 unfold ki;exact ZQ
def bL(x:Fct):Int:=(x.pred*5+x.a)*5+x.b
structure aG (n:Nat) (K:Int->Int) (x:Fct):Prop where
 p0:0<=x.pred
 p1:x.pred<n
 a0:0<=x.a
 a1:x.a<=4
 b0:0<=x.b
 b1:x.b<=4
 v:cp (K x.pred) x.val=0
def fV(f:List Fct):Prop:=f.Pairwise λx y=>bL x<bL y
structure am (n:Nat) (K:Int->Int) (f:List Fct):Prop where
 sorted:fV f
 fine:∀x∈f,aG n K x
def cd(f:List Fct)(pl:Int):Option Int:=(f.find? λy=>bL y==pl).map Fct.val
def cy(K:Int->Int)(x:Fct):List Fct->List Fct
 |[]=>[x]
 |y::f=>if bL y=bL x then⟨y.pred,y.a,y.b,dv (K x.pred) y.val x.val⟩::f else if bL x<bL y then x::y::f else y::cy K x f
def dR(K:Int->Int)(x:Fct):List Fct->Bool
 |[]=>true
 |y::f=>if bL y=bL x then dv (K x.pred) y.val x.val != y.val else if bL x<bL y then true else dR K x f
def kX(K:Int->Int)(g:List Fct)(x:Fct):Bool:=match cd g (bL x) with|none=>false|some v=>dv (K x.pred) x.val v==v
def dL(K:Int->Int)(f g:List Fct):Bool:=f.all (kX K g)
section
variable {n:Nat} {K:Int→Int}
theorem pF{c d:Fct}(g:aG n K c)(h:aG n K d)(f:bL c=bL d):c.pred=d.pred/\c.a=d.a/\c.b=d.b:=by
 obtain⟨_,_,_,_,_,_,_⟩:=g;obtain⟨_,_,_,_,_,_,_⟩:=h;unfold bL at f;omega
theorem kC{a:Fct}(b:aG n K a):a.pred=bL a/25:=by
 obtain⟨_,_,_,_,_,_,_⟩:=b;unfold bL;omega
theorem qT(a:Int):cd [] a=none:=rfl
theorem eL(b:Fct)(f:List Fct)(a:Int):cd (b::f) a=if bL b=a then some b.val else cd f a:=by
 unfold cd;rw[List.find?_cons];by_cases h:bL b=a
 .simp[h]
 have c:(bL b==a)=false:=Rg;simp[h,c]
theorem tm{f:List Fct}{c:Int}(b:∀a∈f,c<bL a):cd f c=none:=by
 induction f with
 |nil=>rfl
 |cons g f ih=>
  have:=b g Q1;rw[eL,if_neg Q0];exact ih (λa d=>b a (by simp[d]))
theorem mD{f:List Fct}{c d:Int}(a:cd f c=some d):∃b∈f,bL b=c/\b.val=d:=by
 induction f with
 |nil=>cases a
 |cons j f ih=>
  rw[eL] at a;split at a
  .exact⟨j,Q1,by assumption,inj a⟩
  obtain⟨b,i,g,h⟩:=ih a;exact⟨b,by simp[i],g,h⟩
theorem oR{f:List Fct}(d:fV f){a:Fct}(hx:a∈f):cd f (bL a)=some a.val:=by
 induction f with
 |nil=>cases hx
 |cons g f ih=>
  obtain⟨b,c⟩:=pairwise_cons.1 d;rw[eL];rcases mem_cons.1 hx with rfl|hx
  .rw[if_pos rfl]
  have:=b a hx;rw[if_neg Q0];exact ih c hx
theorem am.a{g:Fct}{f:List Fct}(b:am n K (g::f)):am n K f:=⟨(pairwise_cons.1 b.sorted).2,λd c=>b.fine d (by simp[c])⟩
theorem zI{f g:List Fct}(k:am n K f)(l:am n K g)(h:∀i,cd f i=cd g i):f=g:=by
 induction f generalizing g with
 |nil=>
  cases g with
  |nil=>rfl
  |cons d g=>
   have:=h (bL d);rw[eL,if_pos rfl] at this;cases this
 |cons c f ih=>
  cases g with
  |nil=>
   have:=h (bL c);rw[eL,if_pos rfl] at this;cases this
  |cons d g=>
   obtain⟨m,A⟩:=pairwise_cons.1 k.sorted;obtain⟨o,B⟩:=pairwise_cons.1 l.sorted
   have p:bL c=bL d:=by
    have b:=h (bL c);have j:=h (bL d);rw[eL,if_pos rfl,eL] at b;rw[eL d,if_pos rfl,eL] at j;by_cases e:bL c=bL d
    .exact e
    rw[if_neg (λx=>e x.symm)] at b;rw[if_neg e] at j;obtain⟨z,w,D,_⟩:=mD b.symm;obtain⟨y,t,C,_⟩:=mD j;have:=o z w;have:=m y t;omega
   have u:c.val=d.val:=by
    have b:=h (bL c);rw[eL,if_pos rfl,eL,if_pos p.symm] at b;exact inj b
   obtain⟨q,r,s⟩:=pF (k.fine c Q1) (l.fine d Q1) p
   have v:c=d:=by
    cases c;cases d
    simp only[Fct.mk.injEq];exact⟨q,r,s,u⟩
   subst v;rw[ih k.a l.a];intro i;have b:=h i;rw[eL,eL] at b;by_cases e:bL c=i
   .subst e;rw[tm m,tm o]
   rw[if_neg e,if_neg e] at b;exact b
theorem vT{f:List Fct}(o:fV f)(d:Fct)(h:Int):cd (cy K d f) h=if h=bL d then some (match cd f h with|none=>d.val|some p=>dv (K d.pred) p d.val) else cd f h:=by
 induction f with
 |nil=>
  rw[cy,eL,qT];by_cases e:bL d=h
  .rw[if_pos e,if_pos e.symm]
  rw[if_neg e,if_neg (λc=>e c.symm)]
 |cons g f ih=>
  obtain⟨l,m⟩:=pairwise_cons.1 o;rw[cy];by_cases e:bL g=bL d
  .rw[if_pos e,eL,eL];have k:bL ⟨g.pred,g.a,g.b,dv (K d.pred) g.val d.val⟩=bL g:=rfl;rw[k,e];by_cases c:bL d=h
   .rw[if_pos c,if_pos c.symm,if_pos c]
   rw[if_neg c,if_neg (λi=>c i.symm),if_neg c]
  rw[if_neg e];by_cases j:bL d<bL g
  .rw[if_pos j,eL];by_cases c:bL d=h
   .subst c;rw[if_pos rfl,if_pos rfl,tm (f:=g::f)];intro i hz;rcases mem_cons.1 hz with rfl|hz
    .exact j
    have:=l i hz;omega
   rw[if_neg c,if_neg (λi=>c i.symm)]
  rw[if_neg j,eL,eL,ih m];by_cases c:bL g=h
  .rw[if_pos c,if_neg Q0,if_pos c]
  rw[if_neg c,if_neg c]
theorem Gl{b a:Fct}{f:List Fct}(h:a∈cy K b f):bL a=bL b\/a∈f:=by
 induction f with
 |nil=>simp[cy] at h;exact .inl (by rw[h])
 |cons c f ih=>
  rw[cy] at h;split at h
  .rename_i e;rcases mem_cons.1 h with rfl|h
   .exact .inl e
   exact .inr (by simp[h])
  split at h
  .rcases mem_cons.1 h with rfl|h
   .exact .inl rfl
   exact .inr h
  rcases mem_cons.1 h with rfl|h
  .exact .inr Q1
  rcases ih h with h|h
  .exact .inl h
  exact .inr (by simp[h])
theorem zZ{g:Fct}{f:List Fct}(d:fV f):fV (cy K g f):=by
 induction f with
 |nil=>simp[cy,fV]
 |cons i f ih=>
  obtain⟨b,c⟩:=pairwise_cons.1 d;rw[cy];split
  .exact pairwise_cons.2 ⟨λa hz=>b a hz,c⟩
  split
  .refine pairwise_cons.2 ⟨?_,d⟩;intro a hz;rcases mem_cons.1 hz with rfl|hz
   .assumption
   have:=b a hz;omega
  refine pairwise_cons.2 ⟨?_,ih c⟩;intro a hz;rcases Gl hz with h|h
  .omega
  exact b a h
theorem Sz(h:p:=by simp[hz]):p:=h
theorem abE(h:p:=by
 rcases mem_cons.1 hz with rfl|hz
 .exact hx
 exact hf z hz):p:=h
theorem F9{b:Fct}{f:List Fct}(hx:aG n K b)(hf:∀z∈f,aG n K z):∀z∈cy K b f,aG n K z:=by
 induction f with
 |nil=>intro z hz;simp[cy] at hz;rw[hz];exact hx
 |cons c f ih=>
  intro z hz;have a:=hf c Q1;rw[cy] at hz;split at hz
  .rename_i e;rcases mem_cons.1 hz with rfl|hz
   .have d:=(pF a hx e).1;refine⟨a.p0,a.p1,a.a0,a.a1,a.b0,a.b1,?_⟩;show cp (K c.pred) (dv (K b.pred) c.val b.val)=0;rw[d];exact pJ (by rw[<-d];exact a.v) hx.v
   exact hf z Sz
  split at hz
  .exact abE
  rcases mem_cons.1 hz with rfl|hz
  .exact a
  exact ih (λh g=>hf h (by simp[g])) z hz
theorem am.b{c:Fct}{f:List Fct}(a:am n K f)(d:aG n K c):am n K (cy K c f):=⟨zZ a.sorted,F9 d a.fine⟩
theorem iS{f:List Fct}(a:am n K f){c d:Int}(h:cd f c=some d):cp (K (c/25)) d=0:=by
 obtain⟨g,b,rfl,rfl⟩:=mD h;rw[<-kC (a.fine g b)];exact(a.fine g b).v
theorem ka{f g:List Fct}(i:am n K f):dL K f g=true↔∀d j,cd f d=some j->∃b,cd g d=some b/\fF (K (d/25)) j b:=by
 rw[dL,List.all_eq_true];constructor
 .intro h d j o;obtain⟨c,a,rfl,rfl⟩:=mD o;have:=h c a;unfold kX at this;rw[<-kC (i.fine c a)];cases k:cd g (bL c) with
  |none=>rw[k] at this;cases this
  |some b=>rw[k] at this;exact⟨b,rfl,by simpa[fF] using this⟩
 intro h c a;obtain⟨b,m,l⟩:=h _ _ (oR i.sorted a);unfold kX;rw[m];rw[<-kC (i.fine c a)] at l;simpa[fF] using l
theorem v7{f:List Fct}(a:am n K f):dL K f f=true:=(ka a).2 λ_ c b=>⟨c,b,rl (iS a b)⟩
theorem q_{f a b:List Fct}(d:am n K f)(g:am n K a)(m:am n K b)(l:dL K f a=true)(c:dL K a b=true):dL K f b=true:=by
 rw[ka d] at*;rw[ka g] at c;intro k s j;obtain⟨r,i,o⟩:=l k s j;obtain⟨q,h,p⟩:=c k r i;exact⟨q,h,wJ (iS d j) (iS g i) (iS m h) o p⟩
theorem tx{f b:List Fct}(h:am n K f)(i:am n K b)(k:dL K f b=true)(g:dL K b f=true):f=b:=by
 rw[ka h] at k;rw[ka i] at g;refine zI h i λc=>?_;cases d:cd f c with
 |none=>
  cases o:cd b c with
  |none=>rfl
  |some j=>
   obtain⟨m,a,_⟩:=g c j o;rw[d] at a;cases a
 |some j=>
  obtain⟨m,a,p⟩:=k c j d;obtain⟨r,l,q⟩:=g c m a;rw[d] at l;obtain rfl:=inj l;rw[a,Ih (iS h d) (iS i a) p q]
theorem vZ{f:List Fct}{d:Fct}(a:am n K f)(c:aG n K d):dL K f (cy K d f)=true:=by
 rw[ka a];intro h i b;rw[vT a.sorted,b];by_cases e:h=bL d
 .rw[if_pos e];refine⟨_,rfl,?_⟩;have g:=iS a b;rw[e,<-kC c] at g;rw[e,<-kC c];exact wI g c.v
 rw[if_neg e];exact⟨i,rfl,rl (iS a b)⟩
theorem SA(h:p:=by simpa using hx):p:=h
theorem z6{f:List Fct}{a:Fct}(c:am n K f)(hx:aG n K a):dL K [a] (cy K a f)=true:=by
 have h:am n K [a]:=⟨by simp[fV],SA⟩;rw[ka h];intro i k b;rw[eL,qT] at b;split at b
 .rename_i e;subst e;obtain rfl:=inj b;rw[vT c.sorted,if_pos rfl,<-kC hx];refine⟨_,rfl,?_⟩;cases g:cd f (bL a) with
  |none=>exact rl hx.v
  |some j=>
   have d:=iS c g;rw[<-kC hx] at d;exact AH d hx.v
 cases b
theorem vQ{f c:List Fct}{a:Fct}(d:am n K f)(q:am n K c)(hx:aG n K a)(h:dL K f c=true)(k:dL K [a] c=true):dL K (cy K a f) c=true:=by
 have r:am n K [a]:=⟨by simp[fV],SA⟩;rw[ka (d.b hx)];rw[ka d] at h;rw[ka r] at k;intro t w g;rw[vT d.sorted] at g;split at g
 .rename_i e;subst e;obtain rfl:=inj g;obtain⟨u,i,p⟩:=k (bL a) a.val (by rw[eL,if_pos rfl]);refine⟨u,i,?_⟩;have s:=iS q i;rw[<-kC hx] at*;cases j:cd f (bL a) with
  |none=>exact p
  |some x=>
   obtain⟨y,m,o⟩:=h _ _ j;rw[i] at m;obtain rfl:=inj m;rw[<-kC hx] at o;have l:=iS d j;rw[<-kC hx] at l;exact(Ie l hx.v s).2 ⟨o,p⟩
 exact h t w g
theorem qO{f:List Fct}{x:Fct}(h:am n K f):dR K x f=true↔cy K x f≠f:=by
 induction f with
 |nil=>simp[dR,cy]
 |cons d f ih=>
  obtain⟨i,j⟩:=pairwise_cons.1 h.sorted;rw[dR,cy];by_cases e:bL d=bL x
  .rw[if_pos e,if_pos e];constructor
   .intro g b;have:dv (K x.pred) d.val x.val=d.val:=congrArg Fct.val (List.cons.inj b).1;simp[this] at g
   intro g;simp only[bne_iff_ne,ne_eq];intro b;exact g (by rw[b])
  rw[if_neg e,if_neg e];by_cases c:bL x<bL d
  .rw[if_pos c,if_pos c];simp only[ne_eq,true_iff];intro b;have:=congrArg List.length b;simp at this
  rw[if_neg c,if_neg c,ih h.a];simp
end
