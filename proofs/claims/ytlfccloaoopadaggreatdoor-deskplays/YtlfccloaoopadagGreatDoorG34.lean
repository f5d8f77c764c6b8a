import Derived.Test.YtlfccloaoopadagGreatDoorG31
import Derived.Test.YtlfccloaoopadagGreatDoorG33
open Go.Proofs.Tryz
set_option maxRecDepth 100000
set_option maxHeartbeats 0
namespace Go.Proofs.YtlfccloaoopadagGreatDoor
open Go.ChangeShapes Go.WideShapes Go.ChangeAt Go.RowKit
open Go.Shelf Go.Lib Go.Sort
variable{p:Prop}
def mG(s t:Stp):Int:=j_ (eG s.x t.x) (eG s.y t.y) (eG s.z t.z)
theorem GG(s a):decide (mG s a<0)=iT s a:=by
 have d:mG s a<0↔iT s a=true:=by
  rw[pI];unfold mG j_ eG;by_cases f:s.x<a.x
  .simp[f]
  by_cases i:a.x<s.x
  .simp[f,i];omega
  have e:s.x=a.x:=Q0;by_cases g:s.y<a.y
  .simp[e,g]
  by_cases j:a.y<s.y
  .simp[e,g,j];omega
  have b:s.y=a.y:=Q0;by_cases c:s.z<a.z
  .simp[e,b,c]
  by_cases h:a.z<s.z
  .simp[e,b,c,h]
  simp[e,b,c,h]
 cases e:iT s a
 .exact decide_eq_false λk=>by rw[d.1 k] at e;cases e
 exact decide_eq_true (d.2 e)
theorem Vs(h:p:=by rw[hk 0 (by omega)];simp):p:=h
theorem GH(f:World)(r o s v)(b c:Nat->Int)(m:∀a,a<3->f.cell? ⟨r,o+a,none⟩=some (.int .i64 (b a)))(n:∀a,a<3->f.cell? ⟨s,v+a,none⟩=some (.int .i64 (c a))):Calls prog 212 #[.slice (some ⟨r,o,none⟩) 3 3,.slice (some ⟨s,v,none⟩) 3 3] f λe C=>e=.returned (.int .i64 (j_ (eG (b 0) (c 0)) (eG (b 1) (c 1)) (eG (b 2) (c 2))))/\C=f:=by
 have h:=hid_ m;have i:=hid_ n;clear m n
 have g:Hid (∀a,a<3->(∀d,d<a->eG (b d) (c d)=0)->eG (b a) (c a)≠0->j_ (eG (b 0) (c 0)) (eG (b 1) (c 1)) (eG (b 2) (c 2))=eG (b a) (c a)):=λa B hk u=>by
  unfold j_;obtain rfl|rfl|rfl:a=0\/a=1\/a=2:=Q0
  .rw[if_pos u]
  .rw[if_neg Vs,if_pos u]
  rw[if_neg Vs,if_neg (by rw[hk 1 Q0];simp)]
 have j:Hid ((∀d,d<3->eG (b d) (c d)=0)->j_ (eG (b 0) (c 0)) (eG (b 1) (c 1)) (eG (b 2) (c 2))=0):=λhk=>by
  unfold j_;rw[if_neg Vs,if_neg (by rw[hk 1 Q0];simp),hk 2 Q0]
 generalize j_ (eG (b 0) (c 0)) (eG (b 1) (c 1)) (eG (b 2) (c 2))=G at*;go_enter func212,ntmps212;go_wp2_with fail;go_loopw [11] (λp wr=>∃a:Nat,a<=3/\p=.int .i64 a/\Hid (∀d,d<a->eG (b d) (c d)=0)/\wr=f) (λp _=>3-(intOf p).toNat)
 case atStart=>exact⟨0,Q0,rfl,λd hk=>Q0,rfl⟩
 obtain⟨a,B,rfl,hk,rfl⟩:=hrel;by_cases l:a<3
 .have m:=h a l;have n:=i a l;have E:(a:Int)<3:=Q0;have y:=hid_ (g a l hk.out)
  have q:Hid (eG (b a) (c a)=0->∀d,d<a+1->eG (b d) (c d)=0):=λA d F=>by
   by_cases e:d=a
   .rw[e];exact A
   exact hk d Q0
  generalize b a=w at*;generalize c a=x at*;clear h i g j hk;go_wp2_with fail;refine mq_ (zE w x _) ?_;generalize eG w x=t at*;by_cases k:t=0
  .subst k;go_wp2_with fail;exact⟨⟨a+1,Q0,Rv,by first|exact q rfl|exact q trivial,by first|rfl|trivial⟩,S6⟩
  have D:(t==0)=false:=by simpa using k
  go_wp2_with fail;go_ret;exact⟨by rw[y k];rfl,rfl⟩
 obtain rfl:a=3:=Q0;have z:=hid_ (j hk.out);clear h i g j hk;go_wp2_with fail;go_ret;exact⟨by rw[z.out];rfl,rfl⟩
theorem Gz(s a)(c:World):Calls prog 211 #[.agg #[s.rule,s.x,s.y,s.z],.agg #[a.rule,a.x,a.y,a.z]] c λe i=>e=.returned (.int .i64 (mG s a))/\∃d f,i=grow (c.drewN d) f:=by
 obtain⟨g,h⟩:=ex_ ((c.alloc (.cells #[s.rule,s.x,s.y,s.z] 140)).alloc (.cells #[a.rule,a.x,a.y,a.z] 140));have k:Hid (∃f,g=grow c f):=by rw[<-h];exact⟨_,by rw[alloc_eq_grow,alloc_eq_grow,grow_grow]⟩
 have j:Hid (∀d,Calls prog 212 #[.slice (some ⟨c,1,none⟩) 3 3,.slice (some ⟨c.heap.size+1,1,none⟩) 3 3] (g.drewN d) λe i=>e=.returned (.int .i64 (mG s a))/\i=g.drewN d):=λd=>
  GH (g.drewN d) c 1 (c.heap.size+1) 1 (λb=>if b=0 then s.x else if b=1 then s.y else s.z) (λb=>if b=0 then a.x else if b=1 then a.y else a.z)
   (λb l=>by
    rw[<-h];obtain rfl|rfl|rfl:b=0\/b=1\/b=2:=Q0
    all_goals simp[go_sem])
   (λb l=>by
    rw[<-h];obtain rfl|rfl|rfl:b=0\/b=1\/b=2:=Q0
    all_goals simp[go_sem])
 generalize mG s a=n at*;go_enter func211,ntmps211;go_wp2_with fail;go_quiet ((go_at_call 212;exact Calls.quiet_of_same (j _)));go_wp2_with fail;go_ret;obtain⟨f,m⟩:=k.out;exact⟨rfl,nq,f,by rw[m];rfl⟩
