import Derived.Deep.RegionHeld3
import Derived.Test.YtlfccloaoopadagGreatDoorG16
open Go.Proofs.Tryz
set_option maxRecDepth 100000
set_option maxHeartbeats 0
open Go.Builtin (append_ lenOf zeroCells)
open Go.Op (equal equalIn)
open List (ext_getElem? getElem?_set_ne getElem?_set_self length_map map_cons map_nil nil_append)
open Nat (le_refl zero_add zero_le)
namespace Go.Proofs.YtlfccloaoopadagGreatDoor
open Go.ChangeShapes Go.WideShapes Go.ChangeAt Go.RowKit
variable{p:Prop}
section
variable {P:Program}
theorem Y5(h:p:=by
 unfold Oper.wp execOp
 simp only[ho,resolve,invoke,builtin,Sem.run_bind,Sem.run_pure,Result.andThen_ok,List.map_toArray,map_cons,map_nil,hsv,hxv,hr]
 exact hK _ _ h):p:=h
theorem DG(f:World){j:Array Oper}{k:List Oper}{o:Oper}{d:Act}{g:Exit->Act->World->Prop}(m:o.guard=none)(s l:Operand)(c:TypeId)(ho:o.op=.call {callee:=.builtin .append,args:=#[s,l],argTypes:=#[c,c]})(e:TypeId)(t:TypeInfo)(r:P.underlying c=some (.slice e))(p:P.info? e=some t)(a:Option Addr)(n b i:Nat)(q:n<=b)(hsv:d.eval s=.slice a n b)(hxv:d.eval l=.slice none 0 i)(h:wpList P j g k (d.put o.dst (.slice a n b)) f):wpList P j g (o::k) d f:=
 wpList_plain m λ_ hK=>by
  have hr:(append_ #[c,c] o.type #[.slice a n b,.slice none 0 i]).run P f=.ok (.slice a n b) f:=by
   cases a<;>simp[append_,run_underlying r,sizeOf,typeInfo,p,lenOf,Builtin.firstCells,q,storeCells]
  exact Y5
theorem aaQ(h:p:=by exact h _ w (by rw[List.append_nil];exact hown') ⟨rfl,rfl,rfl,le_refl _,λ_ _ _=>rfl⟩):p:=h
theorem r_(w:World){F:Array Oper}{G:List Oper}{o:Oper}{j:Act}{D:Exit->Act->World->Prop}(t:o.guard=none)(s g:Operand)(d:TypeId)(v:o.op=.call {callee:=.builtin .append,args:=#[s,g],argTypes:=#[d,d]})(e:TypeId){C:Value}{c l:Nat}(z:P.underlying d=some (.slice e))(R:(P.info? e).map (λa=>(a.zero,a.size,a.bytes))=some (some C,c,l))(X:C.cells.size=c)(U:0<c)(N:l<=1000)(k:Nat)(q:Value)(n:Nat)(B:List Value)(x:w.ownsRow k e c q n B)(y:j.eval s=q)(H:Value)(A:j.eval g=H)(b:Nat)(i:List Value)(T:eE w H b i)(S:i.length=b*c)(p:∀Y∈i,Y.oneCell'=true)(ae:n+b<=1000)(M:k<=w.heap.size)(h:∀r f,f.ownsRow k e c r (n+b) (B++i)->w.grownBy f q.ownBlock->wpList P F D G (j.put o.dst r) f):wpList P F D (o::G) j w:=by
 obtain⟨a,u,W,V,O⟩:=info_parts R;rcases T with⟨m,rfl,rfl,rfl⟩|⟨I,m,rfl,Q⟩
 .have hown':=x;rcases x.2 with⟨rfl,aa⟩|⟨K,J,Z,rfl,p,E,L,ab,ac,ad⟩
  .refine DG w t s g d v e a z u none 0 0 m (le_refl _) y A ?_;exact aaQ
  refine DG w t s g d v e a z u (some ⟨K,0,none⟩) n J m L y A ?_;exact aaQ
 have af:(n+b+(n+b)/4+192)*l<=2000*1000:=Nat.mul_le_mul Q0 N;refine wpList_append_own_wide w t s g d v k e a C c l z u W V O X U q n B y x I b m i A S Q p (by unfold maxLen;omega) Q0 M ?_;intro r f p E _;exact h r f p E
end
theorem WN(h:p:=by cases hk;exact le_refl _):p:=h
theorem ZN(h:p:=by
 simp only[binOp]
 simp[equal,Op.maxDepth,h 9999]):p:=h
theorem ZO(h:p:=by
 go_wp2_with fail
 go_ret
 exact⟨_,rfl,⟨rfl,.inl ⟨rfl,rfl⟩⟩,Below.refl _ _⟩):p:=h
theorem aab(h:p:=by
 go_ret
 refine⟨v1,rfl,?_,hb1⟩
 rw[zero_add,nil_append] at hown1
 exact hown1):p:=h
theorem Me(b:World)(o:Value)(n:Nat)(d:List Value)(i:eE b o n d)(k:d.length=n*3)(j:∀w∈d,w.oneCell'=true)(y:n<=500):Calls prog 184 #[o] b λe c=>∃p,e=.returned p/\c.ownsRow b.heap.size 51 3 p n d/\Below b b c:=by
 rcases id i with⟨g,rfl,rfl,rfl⟩|⟨l,g,rfl,u⟩
 .have v:∀c,Sem.run prog (binOp .eql 27 (.slice none 0 g) (.slice none 0 0)) c=.ok (.bool true) c:=λc=>by
   have h:∀f:Nat,(equalIn (f+1) 27 (.slice none 0 g) (.slice none 0 0)).run prog c=.ok true c:=λf=>by
    simp[equalIn,run_underlying underlying27]
   exact ZN
  clear i k j;go_enter func184,ntmps184;exact ZO
 have v:∀c,Sem.run prog (binOp .eql 27 (.slice (some l) n g) (.slice none 0 0)) c=.ok (.bool false) c:=λc=>by
  have h:∀f:Nat,(equalIn (f+1) 27 (.slice (some l) n g) (.slice none 0 0)).run prog c=.ok false c:=λf=>by
   simp[equalIn,run_underlying underlying27]
  exact ZN
 have t:=hid_ i;have r:=hid_ k;have q:=hid_ j;clear i k j u;have s:Hid ((b.alloc (.cells #[] 51)).ownsRow b.heap.size 51 3 (.slice (some ⟨b,0,none⟩) 0 0) 0 []):=⟨rfl,.inr ⟨b,0,#[],rfl,le_refl _,heap_alloc_new b _,le_refl _,zero_le _,rfl,rfl⟩⟩;go_enter func184,ntmps184;go_wp2_with(at_builtin;refine r_ _ rfl _ _ 27 rfl 51 underlying27 pf rfl Q0 Q0 b (.slice (some ⟨b,0,none⟩) 0 0) 0 [] s rfl _ rfl n d (t.out.a (bH _ _)) r q Q0 Q1 ?_;intro v1 x hown1 m;have hb1:Below b b x:=(bH _ _).grown m Q1 (λz hk=>WN);clear m);exact aab
theorem Mf(b:World)(o:Value)(n:Nat)(d:List Value)(i:eE b o n d)(k:d.length=n*2)(j:∀w∈d,w.oneCell'=true)(y:n<=500):Calls prog 223 #[o] b λe c=>∃p,e=.returned p/\c.ownsRow b.heap.size 100 2 p n d/\Below b b c:=by
 rcases id i with⟨g,rfl,rfl,rfl⟩|⟨l,g,rfl,u⟩
 .have v:∀c,Sem.run prog (binOp .eql 53 (.slice none 0 g) (.slice none 0 0)) c=.ok (.bool true) c:=λc=>by
   have h:∀f:Nat,(equalIn (f+1) 53 (.slice none 0 g) (.slice none 0 0)).run prog c=.ok true c:=λf=>by
    simp[equalIn,run_underlying underlying53]
   exact ZN
  clear i k j;go_enter func223,ntmps223;exact ZO
 have v:∀c,Sem.run prog (binOp .eql 53 (.slice (some l) n g) (.slice none 0 0)) c=.ok (.bool false) c:=λc=>by
  have h:∀f:Nat,(equalIn (f+1) 53 (.slice (some l) n g) (.slice none 0 0)).run prog c=.ok false c:=λf=>by
   simp[equalIn,run_underlying underlying53]
  exact ZN
 have t:=hid_ i;have r:=hid_ k;have q:=hid_ j;clear i k j u;have s:Hid ((b.alloc (.cells #[] 100)).ownsRow b.heap.size 100 2 (.slice (some ⟨b,0,none⟩) 0 0) 0 []):=⟨rfl,.inr ⟨b,0,#[],rfl,le_refl _,heap_alloc_new b _,le_refl _,zero_le _,rfl,rfl⟩⟩;go_enter func223,ntmps223;go_wp2_with(at_builtin;refine r_ _ rfl _ _ 53 rfl 100 underlying53 rY rfl Q0 Q0 b (.slice (some ⟨b,0,none⟩) 0 0) 0 [] s rfl _ rfl n d (t.out.a (bH _ _)) r q Q0 Q1 ?_;intro v1 x hown1 m;have hb1:Below b b x:=(bH _ _).grown m Q1 (λz hk=>WN);clear m);exact aab
theorem Md(b:World)(o:Value)(n:Nat)(d:List Value)(i:eE b o n d)(k:d.length=n*3)(j:∀w∈d,w.oneCell'=true)(y:n<=500):Calls prog 224 #[o] b λe c=>∃p,e=.returned p/\c.ownsRow b.heap.size 103 3 p n d/\Below b b c:=by
 rcases id i with⟨g,rfl,rfl,rfl⟩|⟨l,g,rfl,u⟩
 .have v:∀c,Sem.run prog (binOp .eql 56 (.slice none 0 g) (.slice none 0 0)) c=.ok (.bool true) c:=λc=>by
   have h:∀f:Nat,(equalIn (f+1) 56 (.slice none 0 g) (.slice none 0 0)).run prog c=.ok true c:=λf=>by
    simp[equalIn,run_underlying underlying56]
   exact ZN
  clear i k j;go_enter func224,ntmps224;exact ZO
 have v:∀c,Sem.run prog (binOp .eql 56 (.slice (some l) n g) (.slice none 0 0)) c=.ok (.bool false) c:=λc=>by
  have h:∀f:Nat,(equalIn (f+1) 56 (.slice (some l) n g) (.slice none 0 0)).run prog c=.ok false c:=λf=>by
   simp[equalIn,run_underlying underlying56]
  exact ZN
 have t:=hid_ i;have r:=hid_ k;have q:=hid_ j;clear i k j u;have s:Hid ((b.alloc (.cells #[] 103)).ownsRow b.heap.size 103 3 (.slice (some ⟨b,0,none⟩) 0 0) 0 []):=⟨rfl,.inr ⟨b,0,#[],rfl,le_refl _,heap_alloc_new b _,le_refl _,zero_le _,rfl,rfl⟩⟩;go_enter func224,ntmps224;go_wp2_with(at_builtin;refine r_ _ rfl _ _ 56 rfl 103 underlying56 xP rfl Q0 Q0 b (.slice (some ⟨b,0,none⟩) 0 0) 0 [] s rfl _ rfl n d (t.out.a (bH _ _)) r q Q0 Q1 ?_;intro v1 x hown1 m;have hb1:Below b b x:=(bH _ _).grown m Q1 (λz hk=>WN);clear m);exact aab
theorem qo{i:World}{c h n:Nat}{e:TypeId}{a:Value}{j:List Value}(f:i.ownsRow c e h a n j):∃b d,a=.slice b n d:=by
 rcases f.2 with⟨rfl,g⟩|⟨m,k,l,rfl,_⟩
 .exact⟨none,0,by rw[g]⟩
 exact⟨_,_,rfl⟩
theorem WO(h:p:=by rw[<-hW2];exact(bH _ _).alloc (by simp) _):p:=h
theorem WP(h:p:=by rw[<-hW2];simp[go_sem]):p:=h
theorem Yj(h:p:=by first|exact Below.refl _ _|exact(Below.refl _ _).drew|exact hk):p:=h
theorem Dr(c:World)(k:Int)(o:Value)(g:List Tm)(w:cr c o g)(G:g.length<=500):Calls prog 186 #[.agg #[k,o]] c λe y=>∃s u,e=.returned (.agg #[k,.slice s g u])/\fK c (λd=>cr d (.slice s g u) g) y/\Below c c y:=by
 have A:=hid_ (λd h=>Mf d o g (dW g) (Mr (cr.a h w)) (xO g) (Dk g) G);obtain⟨i,j,rfl,F,_⟩:=w;obtain⟨f,hW2⟩:=ex_ ((c.alloc (.cells #[k,.slice i g j] 55)).alloc (.cells #[.int .i64 0,.slice none 0 0] 55));have t:Below c c f:=WO;have I:f.heap.size=c.heap.size+2:=by rw[<-hW2];simp
 have r:f.cell? c=some (.int .i64 k)/\f.cell? ⟨c,1,none⟩=some (.slice i g j):=WP;have l:f.cell? ⟨c.heap.size+1,0,none⟩=some (.int .i64 0)/\f.cell? ⟨c.heap.size+1,1,none⟩=some (.slice none 0 0)/\f.frozen? ⟨c.heap.size+1,0,none⟩=false/\f.frozen? ⟨c.heap.size+1,1,none⟩=false:=WP;have m:Hid (∀d,Below f f d->(λd:World=>d.cell? c=some (.int .i64 k)/\d.cell? ⟨c,1,none⟩=some (.slice i g j)) d):=λd h=>⟨(bF h Q0).trans r.1,(bF h Q0).trans r.2⟩;have B:Hid (∀d,Below f f d->∀x q,(λd:World=>d.cell? c=some (.int .i64 k)/\d.cell? ⟨c,1,none⟩=some (.slice i g j)) ((d.setCell ⟨c.heap.size+1,0,none⟩ x).setCell ⟨c.heap.size+1,1,none⟩ q)):=λd h x q=>⟨(cb Q0).trans ((cb Q0).trans (m d h).1),(cb Q0).trans ((cb Q0).trans (m d h).2)⟩;have C:=hid_ λd (h:Below f f d)=>an_ ((bF h Q0).trans l.1) (an_ ((bF h Q0).trans l.2.1) (an_ (((fR h).2 _ _ Q0).trans l.2.2.1) (((fR h).2 _ _ Q0).trans l.2.2.2)));go_enter func186,ntmps186;go_wp2_with fail;clear hW2;go_region_held3 (λd:World=>d.cell? c=some (.int .i64 k)/\d.cell? ⟨c,1,none⟩=some (.slice i g j)) (first|(refine m _ ?_;exact Yj)|exact B _ hk _ _) (first|(go_at_call 223;refine(A _ t.drew).mono ?_;rintro e z ⟨J,rfl,v,D⟩;obtain⟨a5,c5,rfl⟩:=qo v;have hk:Below f f z:=((Below.refl _ _).drew).trans D;obtain⟨z0,z1,z0f,z1f⟩:=C _ hk));have E:=bt_ t hk;have H:z.ownsRow f.heap.size 100 2 (.slice a5 g c5) g (dW g):=v;go_wp2_with fail;refine bodyPost_ret (v:=.agg #[k,.slice a5 g c5]) (by simp[results,results186,go_sem,z0,z1]) rfl ⟨a5,c5,rfl,?_,(E.setCell (p:=⟨c.heap.size+1,0,none⟩) (show c.heap.size<=c.heap.size+1 by omega) _).setCell (p:=⟨c.heap.size+1,1,none⟩) (show c.heap.size<=c.heap.size+1 by omega) _⟩;exact((((Mi H F).a (lg.a (n:=f.heap.size) Q0) (le_refl _)).a (lg.a (n:=f.heap.size) Q0) (le_refl _))).b Q0
theorem Dl{a h:Type}{f:a->h}{d:List a}{c:List h}(i:d.map f=c){b:Nat}{g:a}(j:d[b]? =some g):c[b]? =some (f g):=by rw[<-i,List.getElem?_map,j];rfl
theorem Dp{d l:Type}{f:d->l}{c:List d}{i:List l}(a:c.map f=i){b:Nat}{j k:d}(h:c[b]? =some j)(m:f k=f j):(c.set b k).map f=i:=by
 rw[List.map_set,a,m];refine ext_getElem? λn=>?_;by_cases g:b=n
 .subst g;have:=(List.getElem?_eq_some_iff.1 (Dl a h)).1;rw[getElem?_set_self this,Dl a h]
 rw[getElem?_set_ne g]
theorem WQ(h:p:=by rw[<-hvs,length_map]):p:=h
theorem WT(h:p:=by rw[hin.out.2.2.2.1 j (le_refl _)];exact List.getElem?_eq_getElem hjl):p:=h
theorem adJ(h:p:=by have h1:=congrArg List.length hin.out.1;have h2:=congrArg List.length HVS.out;simp only[length_map] at h1 h2;omega):p:=h
theorem WV(h:p:=by have:=hgc _ _ t0;rwa[zero_add] at this):p:=h
theorem WX(h:p:=by go_num):p:=h
theorem WY(h:p:=by have:=b2.size;omega):p:=h
theorem WZ(h:p:=by rw[<-he];exact List.getElem?_eq_getElem hq):p:=h
theorem aby(h:p:=by
 intro q hq
 rw[getElem?_set_ne Q0]
 exact hin.out.2.2.2.1 q Q0):p:=h
theorem Mm(i:World)(I:Value)(t:List Ltr)(W:dC i I t)(aw:t.length<=500)(ae:∀l∈t,l.atom.args.length<=500):Calls prog 187 #[I] i λe C=>∃y z,e=.returned (.slice y t z)/\fK i (λd=>dC d (.slice y t z) t) C/\Below i i C:=by
 obtain⟨f,hvs,O,ac⟩:=Mk W;have M:f.length=t.length:=WQ;have U:=Md i I f (d9 f) ac (uJ f) (Df O) Q0;obtain⟨aE,aF,rfl,aM,_⟩:=W;have V:Hid (∀d,Below i i d->∀w∈f,nB d w):=λd m w R=>nB.a m (O w R);have am:=hid_ (λw R=>ae _ (by rw[<-hvs];exact List.mem_map.2 ⟨w,R,rfl⟩));have HVS:=hid_ hvs;have aC:=hid_ M;have aN:f.length<=500:=Q0;rw[<-M] at*;clear hvs O ac M ae aw;go_enter func187,ntmps187;go_wp2_with(go_at_call 224;refine U.mono ?_;rintro e x ⟨aQ,rfl,Q,X⟩;obtain⟨a1,c1,rfl⟩:=qo Q);clear U;go_loopw [10] (λS wr=>∃(j:Nat) (g:List LV),j<=f.length/\S=.int .i64 j/\Hid (g.map LV.l=t/\wr.ownsRow i.heap.size 103 3 (.slice a1 f c1) f (d9 g)/\(∀q d,g[q]? =some d->q<j->fK x (λc=>nB c d) wr)/\(∀q,j<=q->g[q]? =f[q]?)/\Below i i wr/\x.heap.size<=wr.heap.size)) (λS _=>f.length-(intOf S).toNat)
 case atStart=>exact⟨0,f,zero_le _,rfl,HVS.out,Q,λq d _ o=>Q0,λ_ _=>rfl,X,le_refl _⟩
 obtain⟨j,g,aK,rfl,hin⟩:=hrel;have K:=hin.out.2.2.2.2.1;by_cases hjl:j<f.length
 .have aL:(j:Int)<(f.length:Int):=Q0;obtain⟨c,s⟩:∃c,g[j]? =some c:=⟨f[j],WT⟩;have B:=List.mem_of_getElem? ((hin.out.2.2.2.1 j (le_refl _)).symm.trans s);have A:g.length=f.length:=adJ;have ab:=hin.out.2.1;obtain⟨h,ap,Y,Z,ar,L,hgc⟩:=(rZ ab (by rw[uJ,A])).resolve_left (by rintro⟨_,o⟩;omega);obtain⟨rfl,rfl⟩:a1=some ⟨h,0,none⟩/\c1=ap:=by simpa using Y
  obtain⟨t0,ah,ai⟩:=rW g j c s;obtain⟨u,v,H,_⟩:=V wr K c B;have al:Hid (∀d,Below i i d->cr d (.slice u c.l.atom.args v) c.l.atom.args):=λd m=>by rw[<-H];exact V d m c B
  have aP:wr.cell? ⟨h,j*3,none⟩=some (.bool c.l.neg):=WV;have az:wr.cell? ⟨h,j*3+1,none⟩=some (.int .i64 c.l.atom.pred):=by have:=hgc _ _ ah;rwa[zero_add] at this
  have aA:wr.cell? ⟨h,j*3+2,none⟩=some (.slice u c.l.atom.args v):=by have:=hgc _ _ ai;rwa[zero_add,H] at this
  have aa:h<x.heap.size:=by
   rcases Q.2 with⟨o,_⟩|⟨aJ,_,aI,o,_,au,_⟩
   .cases o
   cases o;exact(Array.getElem?_eq_some_iff.1 au).1
  have an:Hid (g[j]? =some c/\c∈f/\g.length=f.length/\c.av=.slice u c.l.atom.args v):=⟨s,B,A,H⟩;have ax:=am c B;have ak:Hid (∀d,Below i i d->Calls prog 186 #[.agg #[c.l.atom.pred,.slice u c.l.atom.args v]] d λe C=>∃y z,e=.returned (.agg #[c.l.atom.pred,.slice y c.l.atom.args z])/\fK d (λaB=>cr aB (.slice y c.l.atom.args z) c.l.atom.args) C/\Below d d C):=λd m=>Dr d _ _ _ (al d m) ax;obtain⟨r,hW2⟩:=ex_ (wr.alloc (.cells #[.bool c.l.neg,c.l.atom.pred,.slice u c.l.atom.args v] 103));have b2:Below wr wr r:=by rw[<-hW2];exact bH _ _
  have F:=ar;have aO:=hin.out.2.2.2.2.2;have ao:r.cell? ⟨wr,1,none⟩=some (.int .i64 c.l.atom.pred)/\r.cell? ⟨wr,2,none⟩=some (.slice u c.l.atom.args v):=WP;obtain⟨aG,aH⟩:=ao;have af:=bt_ K b2
  have ag:∀d,Below r r d->d.cell? ⟨h,j*3+1,none⟩=some (.int .i64 c.l.atom.pred)/\d.cell? ⟨h,j*3+2,none⟩=some (.slice u c.l.atom.args v)/\d.frozen? ⟨h,j*3+1,none⟩=false/\d.frozen? ⟨h,j*3+2,none⟩=false:=λd m=>by
   have G:=bt_ b2 m;exact⟨(bF G F).trans az,(bF G F).trans aA,((fR G).2 _ _ F).trans (L _),((fR G).2 _ _ F).trans (L _)⟩
  have aj:Hid (∀d,Below r r d->d.cell? ⟨h,j*3+1,none⟩=some (.int .i64 c.l.atom.pred)/\d.cell? ⟨h,j*3+1+1,none⟩=some (.slice u c.l.atom.args v)/\d.frozen? ⟨h,j*3+1,none⟩=false/\d.frozen? ⟨h,j*3+1+1,none⟩=false):=ag;clear ab Y hgc t0 ah ai H s B A L ag;go_wp2_with(go_at_call 186;refine(ak _ af).mono ?_;rintro e aD ⟨D,E,rfl,aq,J⟩;obtain⟨z1,z2,z1f,z2f⟩:=aj _ J);go_roundw
  case rel=>
   have ay:=bt_ af J;have T:=bt_ b2 J;have s:=an.out.1;refine⟨j+1,g.set j ⟨c.l,.slice D c.l.atom.args E⟩,Q0,WX,Dp hin.out.1 s rfl,?_,?_,?_,(ay.setCell (p:=⟨h,j*3+1,none⟩) Z _).setCell (p:=⟨h,j*3+2,none⟩) Z _,?_⟩
   .have o:=r8 (k:=j*3+2) (v:=.slice D c.l.atom.args E) (r8 (k:=j*3+1) (v:=.int .i64 c.l.atom.pred) (gC hin.out.2.1 T))
    have e:d9 (g.set j ⟨c.l,.slice D c.l.atom.args E⟩)=((d9 g).set (j*3+1) c.l.atom.pred).set (j*3+2) (.slice D c.l.atom.args E):=by
     rw[Dg];congr 2;refine ext_getElem? λq=>?_;by_cases hq:j*3=q
     .subst hq;have N:=(List.getElem?_eq_some_iff.1 (rW g j c s).1).1;rw[getElem?_set_self N,(rW g j c s).1]
     rw[getElem?_set_ne hq]
    rw[e];exact o
   .intro q d m hq;by_cases ad:j=q
    .subst ad;have N:=(List.getElem?_eq_some_iff.1 s).1;rw[getElem?_set_self N] at m;cases m
     exact((aq.a (lg.a (n:=r.heap.size) WY) (le_refl _)).a (lg.a (n:=r.heap.size) WY) (le_refl _)).b WY
    rw[getElem?_set_ne ad] at m;exact(((hin.out.2.2.1 q d m Q0).a (lg.b (n:=x.heap.size) T) (le_refl _)).a (lg.a (n:=x.heap.size) aa) (le_refl _)).a (lg.a (n:=x.heap.size) aa) (le_refl _)
   .exact aby
   rw[cF,cF];have:=T.size;omega
  simp[intOf];omega
 obtain rfl:j=f.length:=Q0;go_wp2_with fail;go_ret;refine⟨_,_,rfl,?_,K⟩;have A:g.length=f.length:=adJ
 have o:=Mh (l:=g) (by rw[A];exact hin.out.2.1) Q0 λd m=>by
  obtain⟨q,hq,he⟩:=List.getElem_of_mem m;exact(hin.out.2.2.1 q d WZ Q0).b X.size
 rw[hin.out.1] at o;exact o
section
variable {P:Program}
theorem Mq(b:World)(f g u e:TypeId)(k:IntKind)(a:TypeInfo)(c:Value)(q:P.underlying f=some (.slice e))(r:P.underlying g=some (.int k))(m:P.info? e=some a)(t:a.zero=some c)(y:0<a.size)(n:Nat)(h:0<n)(v:(n:Int)<=1000)(l:a.bytes<=1000):
 (append_ #[f,g] u #[.slice none 0 0,.int .i64 n]).run P b=
  .ok (.slice (some ⟨b,0,none⟩) n (grownCap b n 0 e)) (b.drew.alloc (.cells (zeroCells c.cells n++zeroCells c.cells (grownCap b n 0 e-n)) e)):=by
 have d:n≠0:=Q0
 have j:¬(9223372036854775807<(n:Int)):=Q0
 have w:n*a.bytes<=1000*1000:=Nat.mul_le_mul Q0 l
 have i:¬(281474976710656<Builtin.nextslicecap n 0*a.bytes):=by rw[nextslicecap_zero h];omega
 have s:IntKind.i64.wrap (n:Int)=n:=by rw[IntKind.wrap_i64];omega
 have o:¬(281474976710656<(n:Int)*(a.bytes:Int)):=by
  have:((n*a.bytes:Nat):Int)=(n:Int)*(a.bytes:Int):=by push_cast;rfl
  omega
 have p:n*a.size≠0:=Nat.mul_ne_zero d Q0
 simp[append_,run_underlying q,run_underlying r,sizeOf,typeInfo,zeroValue,m,t,asInt,asIntOf,s,d,j,i,o,p,Question.forced,run_firstCells_none,newRow,grownCap]
 intro x
 omega
theorem Mt(a:World){j:Array Oper}{l:List Oper}{o:Oper}{c:Act}{i:Exit->Act->World->Prop}(t:o.guard=none)(s m:Operand)(f g:TypeId)(ho:o.op=.call {callee:=.builtin .append,args:=#[s,m],argTypes:=#[f,g]})(e:TypeId)(k:IntKind)(b:TypeInfo)(d:Value)(w:P.underlying f=some (.slice e))(x:P.underlying g=some (.int k))(u:P.info? e=some b)(y:b.zero=some d)(v:0<b.size)(n:Nat)(p:0<n)(q:(n:Int)<=1000)(r:b.bytes<=1000)(hsv:c.eval s=.slice none 0 0)(hxv:c.eval m=.int .i64 n)(h:wpList P j i l (c.put o.dst (.slice (some ⟨a,0,none⟩) n (grownCap a n 0 e))) (a.drew.alloc (.cells (zeroCells d.cells n++zeroCells d.cells (grownCap a n 0 e-n)) e))):wpList P j i (o::l) c a:=
 wpList_plain t λ_ hK=>by
  have hr:=Mq (P:=P) a f g o.type e k b d w x u y v n p q r
  exact Y5
end
theorem Mj(a:World)(n:Nat)(o:n<=1000):Calls prog 222 #[.slice none 0 0,n] a λe c=>∃b,e=.returned b/\c.ownsRow a.heap.size 58 5 b 0 []/\Below a a c:=by
 obtain⟨k,i,j,r,p⟩:=info_parts lh;by_cases g:0<n
 .have l:(0:Int)<(n:Int):=Q0;have m:¬(n:Int)<0:=Q0;have q:=grownCap_ge a n 0 58;have h:=grownCap_le_maxLen a n 0 58 (by unfold maxLen;omega);go_enter func222,ntmps222;go_wp2_with(at_builtin;refine Mt _ rfl _ _ 28 3 rfl 58 .i64 k _ underlying28 underlying3 i j Q0 n g Q0 Q0 rfl rfl ?_);go_ret;refine⟨_,rfl,⟨rfl,.inr ⟨a,_,_,rfl,le_refl _,heap_alloc_new a.drew _,zero_le _,h,?_,Q1⟩⟩,((Below.refl _ _).drew).alloc (le_refl _) _⟩;have f:#[Value.int .i64 0,.slice none 0 0,.int .i64 0,.int .i64 0,.slice none 0 0].size=5:=rfl;rw[Array.size_append,size_zeroCells,size_zeroCells,f];omega
 obtain rfl:n=0:=Q0;have d:(Value.int .i64 ((0:Nat):Int))=.int .i64 0:=rfl;rw[d];go_enter func222,ntmps222;exact ZO
theorem Dm{d b f:World}{a m:Nat}{e:TypeId}{c:Value}{n:Nat}{o:List Value}(g:Below a d b)(j:b.ownsRow a e m c n o)(h:b.grownBy f c.ownBlock)(k:a<=b.heap.size):Below a d f:=
 g.grown h k (λl i=>(j.lt l i).1)
theorem Mg(b:World)(q:Nat)(z A:Option Addr)(C D c g:Nat)(i m:List Value)(E:b.cell? q=some (.slice z c C))(U:b.cell? ⟨q,1,none⟩=some (.slice A g D))(J:eE b (.slice z c C) c i)(K:eE b (.slice A g D) g m)(F:i.length=c*5)(G:m.length=g*5)(H:∀y∈i,y.oneCell'=true)(I:∀y∈m,y.oneCell'=true)(ab:c+g<=500):Calls prog 185 #[.slice (some ⟨q,0,none⟩) 2 2] b λe L=>∃h,e=.returned h/\L.ownsRow b.heap.size 58 5 h (c+g) (i++m)/\Below b b L:=by
 have M:=hid_ J;have N:=hid_ K;have O:=hid_ F;have Q:=hid_ G;have R:=hid_ H;have S:=hid_ I;have B:q<b.heap.size:=rU E;clear J K F G H I;go_enter func185,ntmps185;go_wp2_with fail;go_loop [3,11] (λo f=>(o=.int .i64 0/\f=.int .i64 0)\/(o=.int .i64 c/\f=.int .i64 1)\/(o=.int .i64 ((c+g:Nat):Int)/\f=.int .i64 2)) (λ_ f=>2-(intOf f).toNat)
 case atStart=>exact .inl ⟨rfl,rfl⟩
 rcases hrel with⟨rfl,rfl⟩|⟨rfl,rfl⟩|⟨rfl,rfl⟩
 .have T:¬((c:Int)<0):=Q0;go_wp2_with fail;go_round
  case rel=>exact .inr (.inl ⟨WX,WX⟩)
  simp[intOf]
 .have T:¬((c:Int)+(g:Int)<0):=Q0;go_wp2_with fail;go_round
  case rel=>exact .inr (.inr ⟨WX,WX⟩)
  simp[intOf]
 have v:=Mj b (c+g) Q0;simp only[Int.natCast_add] at v;go_wp2_with(go_at_call 222;refine v.mono ?_;rintro e s ⟨ac,rfl,X,V⟩);clear v;go_loopw [6,27] (λo f wr=>∃(l:Nat) (p:List Value) (h:Value),h=o/\Below b b wr/\wr.ownsRow b.heap.size 58 5 h l p/\((l=0/\[]=p/\f=.int .i64 0)\/(l=c/\i=p/\f=.int .i64 1)\/(l=c+g/\i++m=p/\f=.int .i64 2))) (λ_ f _=>2-(intOf f).toNat)
 case atStart=>exact⟨0,[],_,rfl,V,X,.inl ⟨rfl,rfl,rfl⟩⟩
 case round=>
 obtain⟨l,p,h,Y,d,k,W⟩:=hrel;subst Y;rcases W with⟨w,x,rfl⟩|⟨w,x,rfl⟩|⟨w,x,rfl⟩<;>subst w<;>subst x
 .have Z:=(bF d B).trans E;have t:=hid_ ((M.out.a d));have j:=hid_ k;clear k;go_wp2_with(at_builtin;refine r_ _ rfl _ _ 28 rfl 58 underlying28 lh rfl Q0 Q0 b h 0 [] j rfl _ rfl c i t O R Q0 d.size ?_;intro aa s r n;have u:Below b b s:=Dm d j n d.size;clear n);go_roundw
  case rel=>exact⟨_,_,_,rfl,u,by rw[zero_add,nil_append] at r;exact r,.inr (.inl ⟨rfl,rfl,WX⟩)⟩
  simp[intOf]
 .have Z:=(bF d B).trans U;have t:=hid_ ((N.out.a d));have j:=hid_ k;clear k;go_wp2_with(at_builtin;refine r_ _ rfl _ _ 28 rfl 58 underlying28 lh rfl Q0 Q0 b h l i j rfl _ rfl g m t Q S Q0 d.size ?_;intro aa s r n;have u:Below b b s:=Dm d j n d.size;clear n);go_roundw
  case rel=>exact⟨_,_,_,rfl,u,r,.inr (.inr ⟨rfl,rfl,WX⟩)⟩
  simp[intOf]
 have j:=hid_ k;clear k;go_wp2_with fail;go_ret;exact⟨_,rfl,j.out,d⟩
def jw(x:World)(B:Nat)(u v:Value):Prop:=x.heap[B]? =some (.cells #[u,v] 30 (0,0))
theorem mQ{b:World}{a:Nat}{d f:Value}(c:jw b a d f):b.cell? a=some d/\b.cell? ⟨a,1,none⟩=some f/\b.frozen? a=false/\b.frozen? ⟨a,1,none⟩=false/\a<b.heap.size:=by
 refine⟨?_,?_,?_,?_,(Array.getElem?_eq_some_iff.1 c).1⟩<;>simp[World.cell?,World.frozen?,show b.heap[a]? =_ from c]
theorem DC{d:Type}{l:List d}{i:Nat}{c:d}(a:l[i]? =some c):l.set i c=l:=by
 refine ext_getElem? λf=>?_;by_cases b:i=f
 .subst b;rw[getElem?_set_self (List.getElem?_eq_some_iff.1 a).1,a]
 rw[getElem?_set_ne b]
theorem Mb{b:List RV}{a:Nat}{c:RV}(g:b[a]? =some c)(d f:Value):ci (b.set a ⟨c.r,d,f⟩)=(((ci b).set (a*5) c.r.head.pred).set (a*5+1) d).set (a*5+4) f:=by
 obtain⟨k,m,h,j,n⟩:=uK b a c g;rw[Di];congr 1;rw[DC (l:=((ci b).set (a*5) _).set (a*5+1) d) (i:=a*5+2),DC]
 .rw[getElem?_set_ne Q0,getElem?_set_ne Q0];exact j
 rw[getElem?_set_ne Q0,getElem?_set_ne Q0];exact h
theorem W_(h:p:=by have:=hb2.size;omega):p:=h
theorem Mo(m:World)(aK:Value)(w:List Prd)(ac:Nat)(av aw:Option Addr)(X ay:Nat)(x y:List RV)(ba:bR m aK w)(bT:w.length<=500)(O:m.cell? ac=some (.slice av x.length X))(ah:m.cell? ⟨ac,1,none⟩=some (.slice aw y.length ay))(bg:eE m (.slice av x.length X) x.length (ci x))(bh:eE m (.slice aw y.length ay) y.length (ci y))(aH:∀f∈x,hZ m f)(aJ:∀f∈y,hZ m f)(a9:x.length+y.length<=500)(am:∀f∈x++y,f.r.head.args.length<=500)(a2:∀f∈x++y,f.r.body.length<=500)(a1:∀f∈x++y,∀l∈f.r.body,l.atom.args.length<=500):Calls prog 133 #[aK,.slice (some ⟨ac,0,none⟩) 2 2] m λe W=>∃H I J v t,e=.returned (.agg #[.slice H w.length I,.slice J t.length v])/\W.ownsRow m.heap.size 51 3 (.slice H w.length I) w.length (dP w)/\W.ownsRow m.heap.size 58 5 (.slice J t.length v) t.length (ci t)/\t.map RV.r=(x++y).map RV.r/\(∀f∈t,fK m (λg=>hZ g f) W)/\Below m m W:=by
 have aO:=λf (i:Below m m f)=>Me f aK w.length (dP w) (Dy (bR.a i ba)) (o_ w) (qi w) bT;have aN:=λf (i:Below m m f)=>Mg f ac av aw X ay x.length y.length (ci x) (ci y) ((bF i (rU O)).trans O) ((bF i (rU O)).trans ah) (bg.a i) (bh.a i) (oo x) (oo y) (pd aH) (pd aJ) a9;have bm:=hid_ aO;have bn:=hid_ aN;have ad:Hid (∀f,Below m m f->∀U∈x++y,hZ f U):=λf i U bW=>hZ.a i (by rcases List.mem_append.1 bW with h|h;exact aH U h;exact aJ U h);have aP:Hid (∀f∈x++y,f.r.head.args.length<=500/\f.r.body.length<=500/\∀l∈f.r.body,l.atom.args.length<=500):=λf i=>⟨am f i,a2 f i,a1 f i⟩;obtain⟨ck,cl,rfl,cd,_⟩:=ba;clear aO aN O ah bg bh aH aJ am a2 a1;go_enter func133,ntmps133;go_wp2_with fail;refine(bm _ (bH _ _)).mono ?_;rintro e D ⟨cm,rfl,aC,az⟩;have ax:=cU (bH _ _) az;obtain⟨H,I,rfl⟩:=qo aC;have bM:jw D m (.slice none 0 0) (.slice none 0 0):=(az.block m.heap.size Q1).trans (heap_alloc_new m _);have bV:m.heap.size<D.heap.size:=Nat.lt_of_lt_of_le Q1 az.size;go_wp2_with fail;refine(bn _ ax).mono ?_;rintro e z ⟨cn,rfl,Z,hb2⟩;obtain⟨J,v,rfl⟩:=qo Z;have bz:Hid (D.ownsRow (m.heap.size+1) 51 3 (.slice H w.length I) w.length (dP w)):=li aC Q1;have aD:(x++y).length=x.length+y.length:=List.length_append;rw[<-rX,<-aD] at Z;rw[<-aD] at*;clear aD aC;generalize aF:x++y=o at Z a9 ad aP⊢;have bB:=hid_ aF;have ch:o.length<=500:=by rw[<-aF,List.length_append];omega
 clear aF;obtain⟨E,aj⟩:=ex_ (z.alloc (.cells #[.slice H w.length I,.slice J o.length v] 30));have aT:Below z z E:=by rw[<-aj];exact bH _ _
 have aY:jw E z (.slice H w.length I) (.slice J o.length v):=by rw[<-aj];exact heap_alloc_new z _
 have ce:E.heap.size=z.heap.size+1:=by rw[<-aj];simp
 have bI:=bt_ hb2 aT;have bu:=hid_ (gC Z aT)
 have a8:∀k,J=some ⟨k,0,none⟩->k<z.heap.size:=by
  rintro k rfl;rcases Z.2 with⟨h,_⟩|⟨b7,_,b4,h,_,am,_⟩
  .cases h
  cases h;exact(Array.getElem?_eq_some_iff.1 am).1
 have bq:=hid_ a8;obtain⟨b2,b3,_,_,_⟩:=mQ aY;clear Z a8;go_wp2_with fail;clear aj;go_loopw [16] (λaG wr=>∃(j:Nat) (t:List RV),j<=o.length/\aG=.int .i64 j/\Hid (t.map RV.r=o.map RV.r/\wr.ownsRow D.heap.size 58 5 (.slice J o.length v) o.length (ci t)/\(∀q f,t[q]? =some f->q<j->fK E (λg=>hZ g f) wr)/\(∀q,j<=q->t[q]? =o[q]?)/\jw wr z.heap.size (.slice H w.length I) (.slice J o.length v)/\Below D D wr/\E.heap.size<=wr.heap.size)) (λaG _=>o.length-(intOf aG).toNat)
 case atStart=>exact⟨0,o,zero_le _,rfl,rfl,bu.out,λq f _ h=>Q0,λ_ _=>rfl,aY,bI,le_refl _⟩
 obtain⟨j,t,ca,rfl,hin⟩:=hrel;have V:=hin.out.2.2.2.2.2.1;have ap:=bt_ ax V;have cj:=hin.out.2.2.2.2.2.2;have aE:t.length=o.length:=by have O:=congrArg List.length hin.out.1;simp only[length_map] at O;exact O
 have aq:=hid_ aE;obtain⟨bJ,X,_,_,bN⟩:=mQ hin.out.2.2.2.2.1;by_cases hjl:j<o.length
 .have cc:(j:Int)<(o.length:Int):=Q0;have aQ:=hid_ hjl;obtain⟨g,ao⟩:∃g,t[j]? =some g:=⟨o[j],WT⟩;have aa:=List.mem_of_getElem? ((hin.out.2.2.2.1 j (le_refl _)).symm.trans ao);obtain⟨k,bK,a7,ak,Y,al,hgc⟩:=(rZ hin.out.2.1 (by rw[oo,aE])).resolve_left (by rintro⟨_,h⟩;omega);obtain⟨rfl,rfl⟩:J=some ⟨k,0,none⟩/\v=bK:=by simpa using a7
  have b9:=bq k rfl;obtain⟨t0,bi,bj,bk,bl⟩:=uK t j g ao;obtain⟨⟨Q,R,aB,_⟩,⟨K,L,aA,_⟩⟩:=ad wr ap g aa;have bA:Hid (∀f,Below m m f->cr f (.slice Q g.r.head.args.length R) g.r.head.args):=λf i=>by rw[<-aB];exact(ad f i g aa).1
  have bt:Hid (∀f,Below m m f->dC f (.slice K g.r.body.length L) g.r.body):=λf i=>by rw[<-aA];exact(ad f i g aa).2
  have bd:wr.cell? ⟨k,j*5,none⟩=some (.int .i64 g.r.head.pred):=WV;have be:wr.cell? ⟨k,j*5+1,none⟩=some (.slice Q g.r.head.args.length R):=by have:=hgc _ _ bi;rwa[zero_add,aB] at this
  have bZ:wr.cell? ⟨k,j*5+2,none⟩=some (.int .i64 g.r.src):=by have:=hgc _ _ bj;rwa[zero_add] at this
  have b0:wr.cell? ⟨k,j*5+3,none⟩=some (.int .i64 g.r.n):=by have:=hgc _ _ bk;rwa[zero_add] at this
  have bf:wr.cell? ⟨k,j*5+4,none⟩=some (.slice K g.r.body.length L):=by have:=hgc _ _ bl;rwa[zero_add,aA] at this
  obtain⟨bP,bQ,bS⟩:=aP g aa;have bw:Hid (∀f,Below m m f->Calls prog 186 #[.agg #[g.r.head.pred,.slice Q g.r.head.args.length R]] f λe W=>∃aS aU,e=.returned (.agg #[g.r.head.pred,.slice aS g.r.head.args.length aU])/\fK f (λA=>cr A (.slice aS g.r.head.args.length aU) g.r.head.args) W/\Below f f W):=λf i=>Dr f _ _ _ (bA f i) bP;have bx:=hid_ (λf i=>Mm f _ _ (bt f i) bQ bS);have ar:=hid_ ao;obtain⟨s,ai⟩:=ex_ (wr.alloc (.cells #[g.r.head.pred,.slice Q g.r.head.args.length R,g.r.src,g.r.n,.slice K g.r.body.length L] 58));have F:Below wr wr s:=by rw[<-ai];exact bH _ _
  have cg:s.heap.size=wr.heap.size+1:=by rw[<-ai];simp
  have bY:=bt_ ap F;have af:s.cell? wr=some (.int .i64 g.r.head.pred)/\s.cell? ⟨wr,1,none⟩=some (.slice Q g.r.head.args.length R)/\s.cell? ⟨wr,4,none⟩=some (.slice K g.r.body.length L):=by rw[<-ai];simp[go_sem]
  have ae:Hid (∀f,Below s s f->(λf:World=>f.cell? ⟨z,1,none⟩=some (.slice (some ⟨k,0,none⟩) o.length v)/\f.cell? wr=some (.int .i64 g.r.head.pred)/\f.cell? ⟨wr,1,none⟩=some (.slice Q g.r.head.args.length R)) f):=λf i=>⟨(bF (F.trans (i.mono F.size)) bN).trans X,(bF i Q0).trans af.1,(bF i Q0).trans af.2.1⟩;have bC:Hid (∀f,Below s s f->∀ab U,(λf:World=>f.cell? ⟨z,1,none⟩=some (.slice (some ⟨k,0,none⟩) o.length v)/\f.cell? wr=some (.int .i64 g.r.head.pred)/\f.cell? ⟨wr,1,none⟩=some (.slice Q g.r.head.args.length R)) ((f.setCell ⟨k,j*5,none⟩ ab).setCell ⟨k,j*5+1,none⟩ U)):=λf i ab U=>⟨(cb Q0).trans ((cb Q0).trans (ae f i).1),(cb Q0).trans ((cb Q0).trans (ae f i).2.1),(cb Q0).trans ((cb Q0).trans (ae f i).2.2)⟩
  have bE:Hid (∀f,Below s s f->f.cell? ⟨k,j*5,none⟩=some (.int .i64 g.r.head.pred)/\f.cell? ⟨k,j*5+1,none⟩=some (.slice Q g.r.head.args.length R)/\f.frozen? ⟨k,j*5,none⟩=false/\f.frozen? ⟨k,j*5+1,none⟩=false):=λf i=>by
   have an:=bt_ F i;exact⟨(bF an Y).trans bd,(bF an Y).trans be,((fR an).2 _ _ Y).trans (al _),((fR an).2 _ _ Y).trans (al _)⟩
  have aR:Hid (wr.cell? ⟨k,j*5+4,none⟩=some (.slice K g.r.body.length L)/\wr.frozen? ⟨k,j*5+4,none⟩=false):=⟨bf,al _⟩;have bo:=hid_ af.2.2;clear a7 hgc t0 bi bj bk bl aB aA ao aa aE al af bJ;go_wp2_with fail;clear ai bd be bZ b0 bf X;go_region_held3 (λf:World=>f.cell? ⟨z,1,none⟩=some (.slice (some ⟨k,0,none⟩) o.length v)/\f.cell? wr=some (.int .i64 g.r.head.pred)/\f.cell? ⟨wr,1,none⟩=some (.slice Q g.r.head.args.length R)) (first|(refine ae _ ?_;exact Yj)|exact bC _ hk _ _) (first|(go_at_call 186;refine(bw _ bY.drew).mono ?_;rintro e aL ⟨M,N,rfl,a3,aZ⟩;have hk:Below s s aL:=((Below.refl _ _).drew).trans aZ;obtain⟨z0,z1,z0f,z1f⟩:=bE _ hk));have a4:fK s (λA=>cr A (.slice M g.r.head.args.length N) g.r.head.args) aL:=a3;obtain⟨u,G⟩:=ex_ ((aL.setCell ⟨k,j*5,none⟩ g.r.head.pred).setCell ⟨k,j*5+1,none⟩ (.slice M g.r.head.args.length N));have b8:=ak
  have aI:Below D D u:=by
   rw[<-G];have h:=(V.trans (F.mono V.size)).trans (hk.mono (V.trans (F.mono V.size)).size);exact(h.setCell (p:=⟨k,j*5,none⟩) ak _).setCell (p:=⟨k,j*5+1,none⟩) ak _
  have bX:=bt_ ax aI;have cf:s.heap.size<=u.heap.size:=by rw[<-G,cF,cF];exact hk.size
  have bv:Hid (u.ownsRow D.heap.size 58 5 (.slice (some ⟨k,0,none⟩) o.length v) o.length (((ci t).set (j*5) g.r.head.pred).set (j*5+1) (.slice M g.r.head.args.length N))):=by
   rw[<-G];exact r8 (r8 (gC (gC hin.out.2.1 F) hk))
  have bp:Hid (fK s (λA=>cr A (.slice M g.r.head.args.length N) g.r.head.args) u):=by
   rw[<-G];exact(a4.a (lg.a (n:=s.heap.size) Q0) (le_refl _)).a (lg.a (n:=s.heap.size) Q0) (le_refl _)
  have bs:Hid (lg E.heap.size wr u):=by
   rw[<-G];exact(((lg.b F).c (lg.b hk)).c (lg.a Q0)).c (lg.a Q0)
  have aM:Hid (jw u z (.slice H w.length I) (.slice (some ⟨k,0,none⟩) o.length v)):=by
   show jw _ _ _ _;rw[<-G];unfold jw;rw[h_ Q0,h_ Q0,hk.block _ Q0,F.block _ Q0];exact hin.out.2.2.2.2.1
  have ag:=(mQ aM.out).2.1
  have aV:u.cell? ⟨wr,4,none⟩=some (.slice K g.r.body.length L):=by
   rw[<-G,cb Q0,cb Q0,bF hk Q0];exact bo.out
  have aW:u.cell? ⟨k,j*5+4,none⟩=some (.slice K g.r.body.length L):=by
   rw[<-G,cP Q0,cP Q0,bF hk Q0,bF F Y];exact aR.out.1
  have aX:u.frozen? ⟨k,j*5+4,none⟩=false:=by
   rw[<-G,gI,gI,(fR hk).2 _ _ Q0,(fR F).2 _ _ Y];exact aR.out.2
  have au:Hid (∀f,Below u u f->(λf:World=>f.cell? ⟨z,1,none⟩=some (.slice (some ⟨k,0,none⟩) o.length v)/\f.cell? ⟨wr,4,none⟩=some (.slice K g.r.body.length L)) f):=λf i=>⟨(bF i Q0).trans ag,(bF i Q0).trans aV⟩;have bD:Hid (∀f,Below u u f->∀ab,(λf:World=>f.cell? ⟨z,1,none⟩=some (.slice (some ⟨k,0,none⟩) o.length v)/\f.cell? ⟨wr,4,none⟩=some (.slice K g.r.body.length L)) (f.setCell ⟨k,j*5+4,none⟩ ab)):=λf i ab=>⟨(cb Q0).trans (au f i).1,(cb Q0).trans (au f i).2⟩;have bG:=hid_ λf (i:Below u u f)=>an_ ((bF i Q0).trans aW) (((fR i).2 _ _ Q0).trans aX);rw[G];clear G z0 z1 z0f z1f a3 a4 ag aV aW aX aZ;go_wp2_with fail;go_region_held3 (λf:World=>f.cell? ⟨z,1,none⟩=some (.slice (some ⟨k,0,none⟩) o.length v)/\f.cell? ⟨wr,4,none⟩=some (.slice K g.r.body.length L)) (first|(refine au _ ?_;(first|exact Below.refl _ _|exact(Below.refl _ _).drew|exact S))|exact bD _ S _) (first|(go_at_call 187;refine(bx _ bX.drew).mono ?_;rintro e T ⟨B,C,rfl,a5,a0⟩;have S:Below u u T:=((Below.refl _ _).drew).trans a0;obtain⟨z4,z4f⟩:=bG _ S));have a6:fK u (λA=>dC A (.slice B g.r.body.length C) g.r.body) T:=a5
  have br:Hid ((t.set j ⟨g.r,.slice M g.r.head.args.length N,.slice B g.r.body.length C⟩).map RV.r=o.map RV.r/\(T.setCell ⟨k,j*5+4,none⟩ (.slice B g.r.body.length C)).ownsRow D.heap.size 58 5 (.slice (some ⟨k,0,none⟩) o.length v) o.length (ci (t.set j ⟨g.r,.slice M g.r.head.args.length N,.slice B g.r.body.length C⟩))/\(∀q f,(t.set j ⟨g.r,.slice M g.r.head.args.length N,.slice B g.r.body.length C⟩)[q]? =some f->q<j+1->fK E (λg=>hZ g f) (T.setCell ⟨k,j*5+4,none⟩ (.slice B g.r.body.length C)))/\(∀q,j+1<=q->(t.set j ⟨g.r,.slice M g.r.head.args.length N,.slice B g.r.body.length C⟩)[q]? =o[q]?)/\jw (T.setCell ⟨k,j*5+4,none⟩ (.slice B g.r.body.length C)) z (.slice H w.length I) (.slice (some ⟨k,0,none⟩) o.length v)/\Below D D (T.setCell ⟨k,j*5+4,none⟩ (.slice B g.r.body.length C))/\E.heap.size<=(T.setCell ⟨k,j*5+4,none⟩ (.slice B g.r.body.length C)).heap.size):=by
   refine⟨Dp hin.out.1 ar rfl,?_,?_,?_,?_,?_,?_⟩
   .rw[Mb ar.out];exact r8 (gC bv S)
   .intro q f i hq;by_cases bb:j=q
    .subst bb;have bO:=(List.getElem?_eq_some_iff.1 ar.out).1;rw[getElem?_set_self bO] at i;cases i
     intro A bc;have O:fK s (λA=>cr A (.slice M g.r.head.args.length N) g.r.head.args) (T.setCell ⟨k,j*5+4,none⟩ (.slice B g.r.body.length C)):=(bp.out.a (lg.b (n:=s.heap.size) S) (le_refl _)).a (lg.a (n:=s.heap.size) Q0) (le_refl _);have ah:fK u (λA=>dC A (.slice B g.r.body.length C) g.r.body) (T.setCell ⟨k,j*5+4,none⟩ (.slice B g.r.body.length C)):=a6.a (lg.a (n:=u.heap.size) Q0) (le_refl _);exact⟨O A (bc.d Q0),ah A (bc.d Q0)⟩
    rw[getElem?_set_ne bb] at i;exact(((hin.out.2.2.1 q f i Q0).a bs (le_refl _)).a (lg.b (n:=E.heap.size) S) (le_refl _)).a (lg.a (n:=E.heap.size) Q0) (le_refl _)
   .exact aby
   .unfold jw;rw[h_ Q0,S.block _ Q0];exact aM.out
   .exact(aI.trans (S.mono aI.size)).setCell (p:=⟨k,j*5+4,none⟩) ak _
   rw[cF];have:=S.size;omega
  clear z4 z4f a5 a6 a0;go_wp2_with fail;go_roundw
  case rel=>exact⟨j+1,_,aQ.out,WX,br⟩
  have:=aQ.out;simp[intOf];omega
 obtain rfl:j=o.length:=Q0;obtain⟨bL,ag,b5,b6,_⟩:=mQ ((V.block m.heap.size bV).trans bM);have b1:=hid_ ap;go_wp2_with fail;refine bodyPost_ret (v:=.agg #[.slice H w.length I,.slice J o.length v]) (by simp[results,results133,go_sem,bL,ag]) rfl ⟨H,I,J,v,t,by rw[aq.out],?_,?_,by rw[bB.out];exact hin.out.1,?_,(ap.setCell (p:=⟨m,0,none⟩) (le_refl _) _).setCell (p:=⟨m,1,none⟩) (le_refl _) _⟩
 .have h:=gC bz V;exact li (mR (mR h Q0) Q0) Q0
 .rw[aq.out];exact li (mR (mR hin.out.2.1 Q0) Q0) Q0
 intro f i;obtain⟨q,hq,he⟩:=List.getElem_of_mem i;have bU:q<o.length:=by have:=aq.out;omega
 have h:=hin.out.2.2.1 q f WZ bU;exact((h.a (lg.a (n:=E.heap.size) W_) (le_refl _)).a (lg.a (n:=E.heap.size) W_) (le_refl _)).b W_
theorem Dz(a:World)(q:Value)(f:List Prd)(j:Nat)(m n:Option Addr)(o p h i:Nat)(c d:List RV)(G:c.length=h)(H:d.length=i)(C:bR a q f)(D:f.length<=500)(w:a.cell? j=some (.slice m h o))(x:a.cell? ⟨j,1,none⟩=some (.slice n i p))(I:eE a (.slice m h o) h (ci c))(J:eE a (.slice n i p) i (ci d))(E:∀b∈c,hZ a b)(F:∀b∈d,hZ a b)(B:h+i<=500)(A:∀b∈c++d,b.r.head.args.length<=500)(z:∀b∈c++d,b.r.body.length<=500)(y:∀b∈c++d,∀l∈b.r.body,l.atom.args.length<=500):Calls prog 133 #[q,.slice (some ⟨j,0,none⟩) 2 2] a λe k=>∃s t u v g,e=.returned (.agg #[.slice s f.length t,.slice u g.length v])/\k.ownsRow a.heap.size 51 3 (.slice s f.length t) f.length (dP f)/\k.ownsRow a.heap.size 58 5 (.slice u g.length v) g.length (ci g)/\g.map RV.r=(c++d).map RV.r/\(∀b∈g,fK a (λK=>hZ K b) k)/\Below a a k:=by
 subst G H;exact Mo a q f j m n o p c d C D w x I J E F B A z y
theorem Mc(l:List RV)(k:Nat):ci (l.take k)=(ci l).take (k*5):=by
 induction l generalizing k with
 |nil=>simp[ci]
 |cons a l ih=>
  cases k with
  |zero=>simp[ci]
  |succ k=>rw[List.take_succ_cons,ci,ci,ih,show(k+1)*5=k*5+5 by omega];rfl
theorem Ma(l:List RV)(k:Nat):ci (l.drop k)=(ci l).drop (k*5):=by
 induction l generalizing k with
 |nil=>simp[ci]
 |cons a l ih=>
  cases k with
  |zero=>simp[ci]
  |succ k=>rw[List.drop_succ_cons,ci,ih,show(k+1)*5=k*5+5 by omega];rfl
theorem uM{g:World}{b o n c k:Nat}{f:List RV}(h:eE g (.slice (some ⟨b,o,none⟩) n c) n (ci f)):eE g (.slice (some ⟨b,o,none⟩) k c) k (ci (f.take k)):=by
 rcases h with⟨d,h,_⟩|⟨i,d,h,j⟩
 .cases h
 obtain⟨rfl,rfl⟩:(⟨b,o,none⟩:Addr)=i/\c=d:=Q2;refine .inr ⟨_,_,rfl,λl m a=>j l m ?_⟩;rw[Mc,List.getElem?_take] at a;split at a
 .exact a
 cases a
theorem Dv{i:World}{a o n b k f l:Nat}{g:List RV}(h:eE i (.slice (some ⟨a,o,none⟩) n b) n (ci g)):eE i (.slice (some ⟨a,o+k*5,none⟩) f l) f (ci (g.drop k)):=by
 rcases h with⟨c,h,_⟩|⟨j,c,h,m⟩
 .cases h
 obtain⟨rfl,rfl⟩:(⟨a,o,none⟩:Addr)=j/\b=c:=Q2;refine .inr ⟨_,_,rfl,λq p d=>?_⟩;rw[Ma,List.getElem?_drop] at d;have:=m _ p d;rw[rT] at this⊢;rw[Nat.add_assoc];exact this
