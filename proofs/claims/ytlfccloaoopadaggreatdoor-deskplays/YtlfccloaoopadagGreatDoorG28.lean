import Derived.Test.YtlfccloaoopadagGreatDoorG24
import Derived.Test.YtlfccloaoopadagGreatDoorG26
import Derived.Test.YtlfccloaoopadagGreatDoorG27
import Derived.Test.YtlfccloaoopadagGreatDoorG40
open Go.Proofs.Tryz
set_option maxRecDepth 100000
set_option maxHeartbeats 0
namespace Go.Proofs.YtlfccloaoopadagGreatDoor
open Go.ChangeShapes Go.WideShapes Go.ChangeAt Go.RowKit
variable{p:Prop}
theorem Jl{a j}(h:¬(5<a.length\/8<j.length)):ej a j=if e_ a≠0 then e_ a else jO a j:=by
 cases b:a.any ge
 .cases d:iJ a
  .cases g:a.any g7
   .cases i:a.any iI
    .rw[xf h b d g i,BT (λf c=>by
      match f,c with
      |0,_=>exact b
      |1,_=>exact d
      |2,_=>exact g
      |3,_=>exact i)]
     rfl
    have e:e_ a=4:=show e_ a=ny 3 from n_ (ps:=a) ⟨3,TQ⟩ (λf c=>by
     match f,c with
     |0,_=>exact b
     |1,_=>exact d
     |2,_=>exact g) (show io a 3=true from i)
    rw[BM h b d g i,e];rfl
   have e:e_ a=3:=show e_ a=ny 2 from n_ (ps:=a) ⟨2,TQ⟩ (λf c=>by
    match f,c with
    |0,_=>exact b
    |1,_=>exact d) (show io a 2=true from g)
   rw[BK h b d g,e];rfl
  have e:e_ a=6:=show e_ a=ny 1 from n_ (ps:=a) ⟨1,TQ⟩ (λf c=>by
   match f,c with
   |0,_=>exact b) (show io a 1=true from d)
  rw[BS h b d,e];rfl
 have e:e_ a=5:=show e_ a=ny 0 from n_ (ps:=a) ⟨0,TQ⟩ (λf c=>absurd c (Nat.not_lt_zero _)) (show io a 0=true from b)
 rw[BQ h b,e];rfl
theorem Ui(h:p:=by rw[hpe];simp):p:=h
theorem Bm(w:World)(P R b c)(N:bR w P b)(O:ck w R c)(M:dU b):Calls prog 73 #[.agg #[P,R]] w λe ak=>e=.returned (.int .i64 (ej b c))/\Below w w ak:=by
 have v:=hid_ N;have U:=hid_ O;have F:=hid_ M;clear M;obtain⟨m,o,rfl,ar,ae⟩:=N;obtain⟨q,r,rfl,au,ag⟩:=O;clear ae ag;have ab:=hid_ λi (h:Below (w.heap.size+1) (w.alloc (.cells #[.slice m b o,.slice q c r] 30)) i)=>(bH _ _).trans (h.mono Q0)
 have D:Hid (∀i,Below (w.heap.size+1) (w.alloc (.cells #[.slice m b o,.slice q c r] 30)) i->i.cell? w=some (.slice m b o)/\i.cell? ⟨w,1,none⟩=some (.slice q c r)):=λi h=>
  ⟨TO,TP⟩
 by_cases Y:5<b.length
 .rw[ub (.inl Y)];have J:(5:Int)<(b.length:Int):=Q0;go_enter func73,ntmps73;exact YO
 by_cases Z:8<c.length
 .rw[ub (.inr Z)];have J:¬(5:Int)<(b.length:Int):=Q0;have aa:(8:Int)<(c.length:Int):=Q0;go_enter func73,ntmps73;exact YO
 have s:Hid (ej b c=if e_ b≠0 then e_ b else jO b c):=Jl Q0;have J:¬(5:Int)<(b.length:Int):=Q0;have aa:¬(8:Int)<(c.length:Int):=Q0;by_cases hpe:e_ b=0
 .have k:Hid (ej b c=jO b c):=by
   show _=_;rw[s.out,if_neg Ui]
  go_enter func73,ntmps73;go_wp2_with(first|(go_at_call 117;refine mo_ (Br _ _ b (bR.a RK v.out) Q0 F.out) λC g=>?_;rw[hpe];have X:=D _ (by have:=g;simp only[World.size_alloc] at this;exact this);obtain⟨y,I⟩:=X));clear hpe s;go_loopw [26] (λB wr=>∃f:Nat,f<=c.length/\B=.int .i64 f/\(c.take f).all (λd=>cx b d==0)=true/\Below (w.heap.size+1) (w.alloc (.cells #[.slice m b o,.slice q c r] 30)) wr) (λB _=>c.length-(intOf B).toNat)
  case atStart=>exact⟨0,Nat.zero_le _,rfl,rfl,by simp only[World.size_alloc] at g;exact g⟩
  clear g y I;obtain⟨f,ao,rfl,l,hbr⟩:=hrel;obtain⟨y,I⟩:=D _ hbr;have j:=ab _ hbr;by_cases A:f<c.length
  .obtain⟨Q,aj,ai,hv,af,L⟩:=cN U A;obtain⟨rfl,rfl⟩:q=some ⟨Q,aj,none⟩/\r=ai:=S2;obtain⟨aw,⟨av,ax,S⟩,ay,az,al,aA,T⟩:=zk.a w wr Q _ _ j af L;have K:=hid_ λi (ah:Below wr wr i)=>bR.a (j.trans (ah.mono j.size)) v.out;have G:=lt_ S;have E:=lb_ T;have x:Hid (cx b c[f]=0->(c.take (f+1)).all (λd=>cx b d==0)=true):=λh=>by rw[mz A,l,h];rfl
   have u:=hid_ (λh=>k.out.trans (xi A l h));have ap:(0:Int)<=(f:Int):=Q0;have aq:(f:Int)<(c.length:Int):=Q0;clear hv L l;obtain⟨V,W,rfl,an,_⟩:=T;obtain⟨ac,ad,rfl,_⟩:=S;generalize c[f]=d at*;have am:(wr.alloc (.cells #[d.head.pred,.slice ac d.head.args ad,d.src,d.n,.slice V d.body W] 58)).cell? w=some (.slice m b o):=(bF (bH _ _) RI).trans y;by_cases z:cx b d=0
   .have H:=x z;have t:Hid _:=H;clear x u H;go_wp2_with(first|(go_at_call 118;refine mo_ (Ct _ _ b d _ _ (K _ RK) (G _ RK) (E _ RK)) λC g=>?_;rw[z]));exact⟨⟨f+1,Q0,Rv,t.out,hbr.trans ((cU (bH _ _) g).mono RI)⟩,S6⟩
   have H:=u z;have t:Hid _:=H;clear x u H;go_wp2_with(first|(go_at_call 118;refine mo_ (Ct _ _ b d _ _ (K _ RK) (G _ RK) (E _ RK)) λC g=>?_));go_ret;exact⟨by rw[t.out];rfl,j.trans ((cU (bH _ _) g).mono j.size)⟩
  have H:=hid_ (k.out.trans (ud (nQ Q0 l)));clear l k;go_wp2_with fail;go_ret;exact⟨TR,j⟩
 have k:Hid (ej b c=e_ b):=by
  show _=_;rw[s.out,if_pos hpe]
 clear s;go_enter func73,ntmps73;go_wp2_with(first|(go_at_call 117;refine mo_ (Br _ _ b (bR.a RK v.out) Q0 F.out) λC g=>?_));go_ret;exact⟨by rw[k.out];rfl,cU (bH _ _) g⟩
theorem pS(w:World)(v x b c)(t:bR w v b)(u:ck w x c)(s:dU b):Calls prog 28 #[.agg #[v,x]] w λe y=>(∃i,e=.returned (.tuple #[i,.int .i64 (bP b c)])/\(bP b c≠0->i=.slice none 0 0)/\(∀l,eX (cI c) b.length=some l->bP b c=0->dD y i l))/\Below w w y:=by
 have k:=hid_ t;have m:=hid_ u;obtain⟨D,E,rfl,J,z⟩:=t;obtain⟨F,G,rfl,K,A⟩:=u;clear z A;by_cases h:ej b c=0
 .have d:=hid_ (xg h);have q:=hid_ (gN h);go_enter func28,ntmps28
  go_wp2_with(first
   |(go_at_call 73;refine mo_ (Bm _ _ _ b c (bR.a RK k.out) (ck.a RK m.out) s) λo hb1=>?_;rw[h];have H:o.cell? w=some (.slice D b E):=Ua;have I:o.cell? ⟨w,1,none⟩=some (.slice F c G):=Ub)
   |(go_at_call 74;refine(Jd _ _ _ b c (bR.a (by exact cU (bH _ _) hb1) k.out) (ck.a (by exact cU (bH _ _) hb1) m.out) q.out.1 q.out.2.2).mono ?_;rintro e L ⟨(⟨l,i,f,rfl,B⟩|⟨f,rfl⟩),r⟩))
  .go_ret2;have j:bP b c=0:=by rw[d.out,f];rfl
   refine⟨⟨i,by rw[j];rfl,λn=>absurd j n,λC g _=>?_⟩,cU (cU (bH _ _) hb1) r⟩;rw[f] at g;cases g
   exact B
  go_ret2;have j:bP b c=8:=by rw[d.out,f];rfl
  exact⟨⟨_,by rw[j];rfl,λ_=>rfl,λC g _=>by rw[f] at g;cases g⟩,cU (cU (bH _ _) hb1) r⟩
 have d:=hid_ (od rfl h);go_enter func28,ntmps28
 go_wp2_with(first
  |(go_at_call 73;refine mo_ (Bm _ _ _ b c (bR.a RK k.out) (ck.a RK m.out) s) λo hb1=>?_))
 go_ret2;exact⟨⟨_,by rw[d.out];rfl,λ_=>rfl,λ_ _ n=>absurd (d.out.symm.trans n) h⟩,cU (bH _ _) hb1⟩
theorem n8(b:World)(h i c d)(f:bR b h c)(g:ck b i d)(m:dU c):Calls prog 22 #[.agg #[h,i]] b λe p=>e=.returned (.int .i64 (bP c d))/\Below b b p:=by
 have j:=hid_ f;have k:=hid_ g;obtain⟨s,t,rfl,q,n⟩:=f;obtain⟨u,v,rfl,r,o⟩:=g;clear n o;go_enter func22,ntmps22
 go_wp2_with(first
  |(go_at_call 28;refine(pS _ _ _ c d (bR.a RK j.out) (ck.a RK k.out) m).mono ?_;rintro e x ⟨⟨w,rfl,_,_⟩,l⟩))
 go_ret;exact⟨rfl,cU (bH _ _) l⟩
theorem Jq(a):iJ a=(List.range a).any λk=>(a.take k).any λb=>b.name.data.toList==((a[k]?.map Prd.name).getD ⟨#[]⟩).data.toList:=by
 unfold iJ;congr 1;funext k;congr 1;funext b;rw[ByteArray.toList_eq,ByteArray.toList_eq]
theorem Bz:eX (cI ca) 3=some [0,0,1]:=TQ
theorem Jb:iJ b9=false:=by rw[Jq];decide
theorem lH:bP b9 ca=0:=by
 have a:ej b9 ca=0:=by rw[xf TQ TQ Jb TQ TQ];decide
 rw[xg a,show b9.length=3 from rfl,Bz];rfl
theorem Jp:dU b9:=by intro a b;revert a;decide
