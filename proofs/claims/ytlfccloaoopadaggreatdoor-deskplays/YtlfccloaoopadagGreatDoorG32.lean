import Derived.Test.YtlfccloaoopadagGreatDoorG18
import Derived.Test.YtlfccloaoopadagGreatDoorG29
open Go.Proofs.Tryz
set_option maxRecDepth 100000
set_option maxHeartbeats 0
namespace Go.Proofs.YtlfccloaoopadagGreatDoor
open Go.ChangeShapes Go.WideShapes Go.ChangeAt Go.RowKit
variable{p:Prop}
theorem UL(h:p:=by simp[results,results48,go_sem,d0,d1]):p:=h
theorem ZW(h:p:=by
 go_wp2_with fail
 exact bodyPost_ret (v:=.tuple #[.agg #[.int .i64 0,.slice none 0 0],.bool false]) UL rfl ⟨_,_,_,_,RZ,(λa h=>by rw[HE.out] at h;cases h),HB9 _ _⟩):p:=h
theorem MG(w:World)(ac d s)(ah:bR w ac d)(av:s.size<=4096)(aq:ak d)(ar:∀r∈d,r.name.size<=8)(P:∀r∈d,0<=r.arity/\r.arity<=2):Calls prog 48 #[ac,.string s] w λe aj=>∃k a n ae,e=.returned (.tuple #[.agg #[.int .i64 k,.slice a n ae],.bool (f5 d (bG s)).isSome])/\(∀i,f5 d (bG s)=some i->k=i.pred/\cr aj (.slice a n ae) i.args)/\Below w w aj:=by
 have O:=lp_ ah;have N:=bK (MI aq (λr W=>(P r W).1) (bG s));have am:=hid_ λa (h:cf d a=0)=>yS ((vr λr W=>(P r W).1).2 h) P;obtain⟨E,hW1⟩:=ex_ (w.alloc (.cells #[.int .i64 0,.slice none 0 0] 55));have Q:Below w w E:=RT;have Y:dT E w (.int .i64 0) (.slice none 0 0):=Tc;have j:=xW E ac d s (O _ Q) av;obtain⟨ax,ay,rfl,_⟩:=ah;generalize fi d (bG s)=a at*;obtain⟨k,f⟩:=a;simp only at j;go_enter func48,ntmps48;go_wp2_with fail;clear hW1;refine j.mono ?_;clear j;rintro e D ⟨az,rfl,U,hb2⟩;obtain⟨x,y,rfl⟩:=gk U.2;obtain⟨t,C⟩:=ex_ (D.alloc (.cells #[.int .i64 k,.slice x f y] 55));have R:Below D D t:=by rw[<-C];exact bH _ _
 have K:=bt_ Q hb2;have aw:=bt_ K R;have af:=Y.b
 have u:Hid (∀i,Below t t i->dT i w.heap.size (.int .i64 0) (.slice none 0 0)/\dT i D.heap.size (.int .i64 k) (.slice x f y)/\dY E i (.slice x f y) f/\Below w w i):=λi ai=>by
  have Z:=bt_ R ai;refine⟨(Z.block _ Ud).trans ((hb2.block _ af).trans Y),(ai.block _ ?_).trans ?_,U.a (fh.c Z),K.trans (Z.mono K.size)⟩
  .rw[<-C];simp
  rw[<-C];exact heap_alloc_new D _
 have ad:=bK C;clear C R K aw hb2 U Y Q af;obtain⟨F,G,H,I⟩:=(u t (Below.refl _ _)).2.1.a;have j:=p8 t _ _ d k f (O _ (u t (Below.refl _ _)).2.2.2) (u t (Below.refl _ _)).2.2.1.c;go_wp2_with fail;rw[ad.out];clear ad;refine j.mono ?_;clear j F G H I;rintro e L ⟨rfl,z⟩;by_cases A:cf d ⟨k,f⟩=0
 .have X:=am _ A;have V:=xZ X;obtain⟨ab,T,J⟩:=X.there
  have ag:(ei d k).size<=8:=by
   have e:ei d k=d[ab].name:=by
    rw[show k=(ab:Int) from T,ei,Int.toNat_natCast,List.getElem?_eq_getElem J];rfl
   rw[e];exact ar _ (List.getElem_mem J)
  obtain⟨g,o,q,l⟩:=u L z;have j:=qu L (.slice ax d ay) (.slice x f y) d ⟨k,f⟩ ab (O _ l) q.c T J V.args ag V.few;obtain⟨F,G,H,I⟩:=o.a;have heq:=nM (dr d ⟨k,f⟩) s;rw[lQ] at heq;rw[A];have al:=bK A;clear g o q l V X ag T J A;go_wp2_with fail;refine j.mono ?_;clear j F G H I;rintro e M ⟨rfl,S⟩;have aa:=bt_ z S;obtain⟨g,o,q,l⟩:=u M aa;obtain⟨F,G,H,I⟩:=o.a;obtain⟨d0,d1,ao,ap⟩:=g.a;have HB9:Hid (∀m v,Below w w ((M.setCell w m).setCell ⟨w,1,none⟩ v)):=λm v=>(l.setCell (p:=⟨w,0,none⟩) (Nat.le_refl _) _).setCell (p:=⟨w,1,none⟩) (Nat.le_refl _) _;by_cases B:c_ d ⟨k,f⟩=bG s
  .rw[decide_eq_true B] at heq;have au:((dr d ⟨k,f⟩).toList != s.toList)=false:=Tq;have HE:Hid (f5 d (bG s)=some ⟨k,f⟩):=by show _=_;rw[<-N.out,if_pos ⟨al.out,B⟩]
   have an:Hid (∀m v,cr ((M.setCell w m).setCell ⟨w,1,none⟩ v) (.slice x f y) f):=λm v=>(q.a ((fh.a g QY).b (fh.a (heap_setCell_same M w 0 _ _ m g) QY))).c;clear B g o q l S aa z;go_wp2_with fail;exact bodyPost_ret (v:=.tuple #[.agg #[.int .i64 k,.slice x f y],.bool true]) UL rfl ⟨_,_,_,_,RZ,λa h=>by rw[HE.out,Option.some.injEq] at h;subst h;exact⟨rfl,an _ _⟩,HB9 _ _⟩
  rw[decide_eq_false B] at heq;have au:((dr d ⟨k,f⟩).toList != s.toList)=true:=Tq;have HE:Hid (f5 d (bG s)=none):=by show _=_;rw[<-N.out,if_neg (λh=>B h.2)]
  clear B g o q l S aa z;exact ZW
 have HE:Hid (f5 d (bG s)=none):=by show _=_;rw[<-N.out,if_neg (λh=>A h.1)]
 have aA:(cf d ⟨k,f⟩ != 0)=true:=by simp[A]
 obtain⟨g,o,q,l⟩:=u L z;obtain⟨d0,d1,ao,ap⟩:=g.a;have HB9:Hid (∀m v,Below w w ((L.setCell w m).setCell ⟨w,1,none⟩ v)):=λm v=>(l.setCell (p:=⟨w,0,none⟩) (Nat.le_refl _) _).setCell (p:=⟨w,1,none⟩) (Nat.le_refl _) _;clear g o q l z;exact ZW
