import Derived.Test.YtlfccloaoopadagGreatDoorG12
import Derived.Test.YtlfccloaoopadagGreatDoorG16
open Go.Proofs.Tryz
set_option maxRecDepth 100000
set_option maxHeartbeats 0
open Nat (le_of_lt le_refl zero_le)
open Option (getD_none getD_some isSome_none isSome_some)
open List (intercalate length_append length_map map_cons replicate sum_cons)
namespace Go.Proofs.YtlfccloaoopadagGreatDoor
open Go.ChangeShapes Go.WideShapes Go.ChangeAt Go.RowKit
variable{p:Prop}
def bN(s:List UInt8):ByteArray:=⟨s.toArray⟩
theorem de(s):bG (bN s)=s:=by unfold bG bN;simp
theorem gr(a):bN (bG a)=a:=kj (de _)
theorem du(s):(bN s).size=s.length:=by rw[<-cD,de]
def cu(w:World)(B:Nat)(s:List UInt8):Prop:=w.heap[B]? =some (.cells #[.string (bN s)] 106 (0,0))
structure Ate (B:Nat) (w w':World):Prop where
 below:Below B w w'
 behind:lg (B+1) w w'
theorem Ate.f(b)(a:World):Ate b a a:=⟨Below.refl _ _,lg.e _ _⟩
theorem Ate.a{b}{f g h:World}(d:Ate b f g)(k:Ate b g h):Ate b f h:=⟨d.below.trans k.below,d.behind.c k.behind⟩
theorem Ate.c{d}{a g:World}(f:Below a a g)(h:d<=a.heap.size):Ate d a g:=⟨f.mono h,lg.b f⟩
theorem Ate.d{c}{a b:World}(f:Ate c a b):a.heap.size<=b.heap.size:=f.below.size
theorem iy{b:World}{a s}(c:cu b a s):a<b.heap.size:=(Array.getElem?_eq_some_iff.1 c).1
theorem sQ{c:World}{a s}(b:cu c a s):c.cell? a=some (.string (bN s)):=by
 unfold cu at b;simp[World.cell?,b]
theorem E8{c:World}{a s}(b:cu c a s):c.frozen? a=false:=by
 unfold cu at b;simp[World.frozen?,b]
theorem sR{c:World}{a s}(d:cu c a s)(b):cu (c.setCell a (.string (bN b))) a b:=by
 have:=heap_setCell_same c a 0 _ _ (.string (bN b)) d;simpa[cu] using this
theorem sg(c:World)(b d):Ate b c (c.setCell b d):=by
 refine⟨?_,lg.a (Nat.lt_succ_self _)⟩;refine⟨rfl,rfl,rfl,?_,λg f=>h_ Q0⟩;rw[cF];exact le_refl _
theorem ji{b d:World}{a s}(c:cu b a s)(f:Below b b d):cu d a s:=(f.block a (iy c)).trans c
def ow:Ending:=.panicked [{v:=.iface 22 (.int .i64 1),recovered:=false}]
def gD{α:Type}(B:Nat)(w:World)(R:Option (α×List UInt8))(V:α->Value->World->Prop)(e:Ending)(w':World):Prop:=
 Ate B w w'/\match R with
  |none=>e=ow
  |some (a,t)=>∃v,e=.returned v/\V a v w'/\cu w' B t
theorem ft{f:Type}{a}{c d:World}{b:Option (f×List UInt8)}{g:f->Value->World->Prop}(h:b=none)(i:Ate a c d):gD a c b g ow d:=by
 subst h;exact⟨i,rfl⟩
theorem lU{d:Type}{b}{j a:World}{f:Option (d×List UInt8)}{g:d->Value->World->Prop}{h i c}(k:f=some (h,i))(l:Ate b j a)(n:g h c a)(m:cu a b i):gD b j f g (.returned c) a:=by
 subst k;exact⟨l,c,rfl,n,m⟩
theorem gD.b{h:Type}{a}{d f:World}{g:h->Value->World->Prop}{e}(c:gD a d none g e f):e=.panicked [{v:=.iface 22 (.int .i64 1),recovered:=false}]/\Hid (Ate a d f):=⟨c.2,c.1⟩
theorem gD.a{j:Type}{d}{i c:World}{f:j->Value->World->Prop}{e g h}(k:gD d i (some (g,h)) f e c):∃b,e=.returned b/\f g b c/\Hid (cu c d h/\Ate d i c):=by
 obtain⟨o,b,l,m,n⟩:=k;exact⟨b,l,m,n,o⟩
theorem Et(a:World)(b s)(c:cu a b s):Calls prog 20 #[.pointer (some ⟨b,0,none⟩)] a λe d=>e=.returned (.bool (decide (s=[])))/\d=a:=by
 have g:=sQ c
 have h:(bN s).toList.isEmpty=decide (s=[]):=by
  rw[ByteArray.toList_eq];show(bG (bN s)).isEmpty=_;rw[de];cases s<;>rfl
 generalize bN s=f at*;go_enter func20,ntmps20;go_wp2_with fail;exact adX
theorem x8(a:World)(b s p)(d:cu a b s):Calls prog 62 #[.pointer (some ⟨b,0,none⟩),.string p] a λe f=>e=.returned (.bool (bT (bG p) s).isSome)/\f=a:=by
 have h:=sQ d;have c:=NZ (bN s) p a;rw[de] at c;generalize bN s=g at*;go_enter func62,ntmps62;go_wp2_with(go_at_call 104;refine mq_ c ?_);exact adX
theorem Fk(a:World)(b s p)(d:cu a b s):Calls prog 68 #[.pointer (some ⟨b,0,none⟩),.string p] a λe f=>e=.returned (.bool (bT (bG p) s).isSome)/\f=a.setCell b (.string (bN ((bT (bG p) s).getD s))):=by
 have i:=sQ d;have j:=E8 d;have c:=yk (bN s) p a;rw[de] at c;change Calls _ _ _ _ λe f=>e=.returned (.tuple #[.string (bN ((bT (bG p) s).getD s)),_])/\_ at c;generalize bN s=g at*;generalize bN ((bT (bG p) s).getD s)=h at*;go_enter func68,ntmps68;go_wp2_with(go_at_call 31;refine mq_ c ?_);exact adX
theorem EM(b:World)(a s p)(g:cu b a s):Calls prog 63 #[.pointer (some ⟨a,0,none⟩),.string p] b (gD a b ((bT (bG p) s).map λi=>((),i)) λ_ j _=>j=.tuple #[]):=by
 have d:=Fk b a s p g;have c:Hid (Ate a b (b.setCell a (.string (bN ((bT (bG p) s).getD s))))):=sg _ _ _;have f:Hid (cu (b.setCell a (.string (bN ((bT (bG p) s).getD s)))) a ((bT (bG p) s).getD s)):=sR g _;cases h:bT (bG p) s with
 |none=>
  rw[h] at d c f;simp only[isSome_none,getD_none] at d c f;go_enter func63,ntmps63;go_wp2_with(go_at_call 68;refine mq_ d ?_);exact⟨rfl,c.out,rfl⟩
 |some i=>
  rw[h] at d c f;simp only[isSome_some,getD_some] at d c f;go_enter func63,ntmps63;go_wp2_with(go_at_call 68;refine mq_ d ?_);go_end0;exact⟨c.out,_,rfl,rfl,f.out⟩
def lS(lo hi:Nat)(b:UInt8):Bool:=decide (lo<=b.toNat)&&decide (b.toNat<=hi)
theorem P6{p:UInt8->Bool}{s:List UInt8}{a:Nat}(d:(s.take a).all p=true)(h2:((s.drop a).head?.map p).getD false=false):s.takeWhile p=s.take a/\s.dropWhile p=s.drop a:=by
 by_cases c:s.take a=[]
 .have f:s.drop a=s:=by
   have:=List.take_append_drop a s;rw[c,List.nil_append] at this;exact this
  rw[c];rw[f] at h2⊢;cases s with
  |nil=>exact⟨rfl,rfl⟩
  |cons h s=>
   have g:p h=false:=Q5;simp[g]
 have b:=sS c d h2;rw[List.take_append_drop] at b;unfold f8 at b;split at b
 .cases b
 simp only[Option.some.injEq,Prod.mk.injEq] at b;exact b
theorem PQ{p:UInt8->Bool}{s a}(h:a<=s.length)(f:(s.take a).all p=true)(g:((s.drop a).head?.map p).getD false=false):f8 p s=if a=0 then none else some (s.take a,s.drop a):=by
 obtain⟨c,d⟩:=P6 f g;unfold f8;rw[c,d];by_cases b:a=0
 .subst b;rfl
 rw[if_neg b];split
 .rename_i e;have:=congrArg List.length e;rw[List.length_take,List.length_nil] at this;omega
 rfl
theorem lP{a b}(c:b<a.size):(bG a)[b]'(by rw[cD];exact c)=a[b]:=rfl
theorem qy(a b):bG (a.extract 0 b)=(bG a).take b:=by
 unfold bG;rw[ByteArray.data_extract];simp
theorem mn(a b):bG (a.extract b a.size)=(bG a).drop b:=by
 unfold bG;rw[ByteArray.data_extract,Array.toList_extract,List.extract_eq_take_drop];have:(List.drop b a.data.toList).length<=a.size-b:=Q1;exact List.take_of_length_le this
theorem SY(h:p:=by rw[cD];exact hlt):p:=h
theorem SZ(h:p:=by rw[cD];omega):p:=h
theorem YY(h:p:=by
 by_cases h0:j=0
 .subst h0
  go_wp2_with fail
  exact⟨rfl,ft HX (Ate.f _ _)⟩
 go_wp2_with fail
 go_ret
 refine lU (HX.out.trans (if_neg h0)) (sg _ _ _) ?_ ?_
 .show Value.string (T.extract 0 j)=_
  rw[<-qy,gr]
 have:=sR HR ((bG T).drop j)
 rw[<-mn,gr] at this
 rw[<-mn]
 exact this):p:=h
theorem aaF(h:p:=by
 subst h0
 go_wp2_with fail
 exact⟨rfl,ft HX (Ate.f _ _)⟩):p:=h
theorem aaV(h:p:=by
 show Value.string (T.extract 0 j)=_
 rw[<-qy,gr]):p:=h
theorem ab4(h:p:=by
 replace HX:Hid (f8 (lS lo hi) (bG T)=if j=0 then none else some ((bG T).take j,(bG T).drop j)):=HX
 clear HT HN HI HE
 exact YY):p:=h
theorem Fc(h:World)(d:Nat)(s)(lo hi:Nat)(a:cu h d s)(m:s.length<=140737488355328):Calls prog 105 #[.pointer (some ⟨d,0,none⟩),.int .u8 (lo:Int),.int .u8 (hi:Int)] h (gD d h (f8 (lS lo hi) s) λn o _=>o=.string (bN n)):=by
 have k:=sQ a;have p:=E8 a;obtain⟨T,rfl⟩:∃T,s=bG T:=⟨bN s,(de s).symm⟩;rw[gr] at k;rw[cD] at m;have HR:=hid_ a;clear a;go_enter func105,ntmps105;go_wp2_with fail;go_loop [7] (λg=>∃j:Nat,j<=T.size/\g=.int .i64 j/\((bG T).take j).all (lS lo hi)=true) (λg=>T.size-(intOf g).toNat)
 case atStart=>exact⟨0,zero_le _,rfl,rfl⟩
 obtain⟨j,l,rfl,c⟩:=hrel;have HE:=hid_ (λb=>PQ (by rw[cD];exact l) c b);by_cases hlt:j<T.size
 .have HT:Hid (lS lo hi T[j]=true->((bG T).take (j+1)).all (lS lo hi)=true):=λa=>by rw[mz SY,c,lP hlt,a];rfl
  have HN:Hid (lS lo hi T[j]=false->(((bG T).drop j).head?.map (lS lo hi)).getD false=false):=λa=>by
   rw[List.head?_drop,List.getElem?_eq_getElem SY,lP hlt];exact a
  have HI:Hid (lS lo hi T[j]=(decide (lo<=T[j].toNat)&&decide (T[j].toNat<=hi))):=rfl;clear c;by_cases i:lo<=T[j].toNat
  .by_cases b:T[j].toNat<=hi
   .go_wp2_with fail;refine⟨⟨j+1,Q0,Rv,HT (by rw[HI.out];simp[i,b])⟩,?_⟩;exact adT
   have HX:=HE (HN (by rw[HI.out];simp[b]));exact ab4
  have HX:=HE (HN (by rw[HI.out];simp[i]));exact ab4
 have HX:=HE (by rw[List.head?_drop,List.getElem?_eq_none SZ];rfl);replace HX:Hid (f8 (lS lo hi) (bG T)=if j=0 then none else some ((bG T).take j,(bG T).drop j)):=HX;clear HE c;exact YY
theorem EN(d:World)(c s)(l:cu d c s)(m:s.length<=140737488355328):Calls prog 64 #[.pointer (some ⟨c,0,none⟩)] d (gD c d (f8 eP s) λh i _=>i=.string (bN h)):=by
 have g:Calls prog 105 #[.pointer (some ⟨c,0,none⟩),.int .u8 97,.int .u8 122] d (gD c d (f8 eP s) λh i _=>i=.string (bN h)):=Fc d c s 97 122 l m;cases k:f8 eP s with
 |none=>
  rw[k] at g;go_enter func64,ntmps64;go_wp2_with(go_at_call 105;refine g.mono ?_;intro e n j;obtain⟨rfl,f⟩:=j.b);exact⟨rfl,ft rfl f.out⟩
 |some o=>
  obtain⟨h,p⟩:=o;rw[k] at g;go_enter func64,ntmps64;go_wp2_with(go_at_call 105;refine g.mono ?_;intro e n j;obtain⟨i,rfl,rfl,f⟩:=j.a);go_ret;exact lU rfl f.out.2 rfl f.out.1
theorem Nt(a)(b:0<a.size):((bG a).head?=some 48)=(a[0]=48):=by
 rw[List.head?_eq_getElem?,List.getElem?_eq_getElem (by rw[cD];exact b),lP b];simp
theorem afd(h:p:=by
 go_enter func65,ntmps65
 go_wp2_with(first|(go_at_call 105;refine hr.mono ?_;intro e w1 h1;obtain⟨v,rfl,hv,ha⟩:=h1.a;rw[gr] at hv;subst hv)|(go_at_call 106;refine mo_ (HA _) λw2 hb=>?_;replace hb:Hid _:=hb))
 go_ret
 exact lU HN (ha.out.2.a (Ate.c hb (by have:=ha.out.2.d;omega))) rfl (ji ha.out.1 hb.out)):p:=h
theorem qE(j:World)(i s)(g:cu j i s)(w:s.length<=140737488355328):Calls prog 65 #[.pointer (some ⟨i,0,none⟩)] j (gD i j (ek s) λn v _=>v=.int .i64 n):=by
 have hr:Calls prog 105 #[.pointer (some ⟨i,0,none⟩),.int .u8 48,.int .u8 57] j (gD i j (f8 ee s) λm v _=>v=.string (bN m)):=Fc j i s 48 57 g w;have A:=iy g;cases h:f8 ee s with
 |none=>
  have HN:Hid (ek s=none):=by show _=_;unfold ek;rw[h]
  rw[h] at hr;clear h;go_enter func65,ntmps65;go_wp2_with(go_at_call 105;refine hr.mono ?_;intro e w1 h1;obtain⟨rfl,ha⟩:=h1.b);exact⟨rfl,ft HN ha.out⟩
 |some z=>
  obtain⟨m,q⟩:=z;obtain⟨f,rfl⟩:∃f,m=bG f:=⟨bN m,(de m).symm⟩;obtain⟨r,p,t,_⟩:=iQ h;have B:f.size<=140737488355328:=by rw[r,length_append,cD] at w;omega
  have h1:0<f.size:=by rw[<-cD];exact List.length_pos_iff.2 p
  have HN:Hid (ek s=if 6<f.size\/(1<f.size/\f[0]=48) then none else some (dV (bG f) 0,q)):=by
   show _=_;unfold ek;rw[h];simp only[cD,Nt f h1]
  have HA:Hid (f.size<=6->∀k:World,Calls prog 106 #[.string f] k λe y=>e=.returned (.tuple #[.int .i64 (dV (bG f) 0),.nilIface])/\Below k k y):=λl k=>by
   have:=MD (bG f) p t (by rw[cD];exact l) k;rw[show(⟨(bG f).toArray⟩:ByteArray)=f from gr f] at this;exact this
  rw[h] at hr;clear h r p t;by_cases l:6<f.size
  .clear HA;go_enter func65,ntmps65;go_wp2_with(go_at_call 105;refine hr.mono ?_;intro e w1 h1;obtain⟨v,rfl,hv,ha⟩:=h1.a;rw[gr] at hv;subst hv);exact⟨rfl,ft (HN.out.trans (if_pos (.inl l))) ha.out.2⟩
  replace HA:=HA Q0;by_cases u:1<f.size
  .by_cases o:f[0]=48
   .have x:f[0].toNat=48:=by rw[o];rfl
    clear HA;go_enter func65,ntmps65;go_wp2_with(go_at_call 105;refine hr.mono ?_;intro e w1 h1;obtain⟨v,rfl,hv,ha⟩:=h1.a;rw[gr] at hv;subst hv);exact⟨rfl,ft (HN.out.trans (if_pos (.inr ⟨u,o⟩))) ha.out.2⟩
   have x:((f[0].toNat:Int)==48)=false:=by
    rw[beq_eq_false_iff_ne];intro e;exact o (UInt8.toNat_inj.1 (by show f[0].toNat=48;omega))
   replace HN:Hid (ek s=some (dV (bG f) 0,q)):=HN.out.trans (if_neg (by rintro(g|⟨_,g⟩);exact l g;exact o g));exact afd
  replace HN:Hid (ek s=some (dV (bG f) 0,q)):=HN.out.trans (if_neg (by rintro(g|⟨g,_⟩);exact l g;exact u g));exact afd
def ks(b:ByteArray):Value:=.string b
def mU(sep:ByteArray)(xs:List ByteArray):ByteArray:=bN ((bG sep).intercalate (xs.map bG))
theorem EL{n:Nat}(b:n<=5)(a:World):(Instr.makeSlice 34 n n).run prog a=.ok (.slice (some ⟨a,0,none⟩) n n) (a.alloc (.cells (Array.replicate n (.string ⟨#[]⟩)) 9)):=by
 exact aa2
theorem S9(h:p:=by simp[intercalate]):p:=h
theorem S_(h:p:=by simp[intercalate,List.intersperse]):p:=h
theorem sE(a:List UInt8):∀b:List (List UInt8),(a.intercalate b).length<=(b.map List.length).sum+b.length*a.length
 |[]=>S9
 |[x]=>S9
 |x::c::b=>by
  have ih:=sE a (c::b)
  have e:a.intercalate (x::c::b)=x++a++a.intercalate (c::b):=S_
  rw[e]
  simp only[length_append,map_cons,sum_cons,List.length_cons] at ih⊢
  have:(b.length+1+1)*a.length=a.length+(b.length+1)*a.length:=by rw[Nat.add_mul];omega
  omega
theorem yN(f:ByteArray->Nat)(b):∀a:List ByteArray,(∀x∈a,f x<=b)->(a.map f).sum<=a.length*b
 |[],_=>Q1
 |x::a,c=>by
  have ih:=yN f b a (λd hy=>c d Rn)
  have:=c x Q1
  simp only[map_cons,sum_cons,List.length_cons,Nat.add_mul]
  omega
theorem Fi{f:World}{d n:Nat}{a:List ByteArray}(g:dq f d ((a.map ks).take n))(j:n=a.length):∀(b:Nat) c,a[b]? =some c->f.cell? ⟨d,0+b,none⟩=some (.string c):=by
 subst j;intro b c h;rw[Nat.zero_add];refine(g b (ks c) ?_).1;have i:a.length=(a.map ks).length:=Q1;rw[i,List.take_length,List.getElem?_map,h];rfl
theorem E9{d:World}{c:Nat}{a:List ByteArray}{j:Nat}(l:j<a.length)(g:dq d c ((a.map ks).take j++replicate (a.length-j) (.string ⟨#[]⟩))):d.cell? ⟨c,j,none⟩=some (.string ⟨#[]⟩)/\d.frozen? ⟨c,j,none⟩=false/\dq (d.setCell ⟨c,j,none⟩ (.string a[j])) c ((a.map ks).take (j+1)++replicate (a.length-(j+1)) (.string ⟨#[]⟩)):=by
 have f:((a.map ks).take j).length=j:=by rw[List.length_take,length_map];omega
 have h:=g j (.string ⟨#[]⟩) (by rw[List.getElem?_append_right Q0,f,Nat.sub_self,List.getElem?_replicate,if_pos Q0]);refine⟨h.1,h.2,?_⟩;have i:=g.b (k:=j) (by rw[length_append,f,List.length_replicate];omega) (.string a[j])
 have e:((a.map ks).take j++replicate (a.length-j) (Value.string ⟨#[]⟩)).set j (.string a[j])=(a.map ks).take (j+1)++replicate (a.length-(j+1)) (.string ⟨#[]⟩):=by
  rw[List.set_append_right _ _ Q0,f,Nat.sub_self,show a.length-j=(a.length-(j+1))+1 by omega,List.replicate_succ,List.set_cons_zero,List.take_succ_eq_append_getElem (by simpa using l)];simp[ks]
 rwa[e] at i
theorem yG(c:World)(i E l)(g:Nat->ByteArray)(y:dD c E l)(M:l.length<=5)(Q:i.size<=100)(v:∀n∈l,(g n).size<=100)(w:∀n∈l,∀k:World,Below c c k->Calls prog 85 #[n] k λe s=>e=.returned (.string (g n))/\Below k k s):Calls prog 34 #[.string i,E] c λe s=>e=.returned (.string (mU i (l.map g)))/\Below c c s:=by
 have H:=li_ y;have G:=hid_ w;obtain⟨d,o⟩:=ex_ (l.map g);have C:d.length=l.length:=by rw[<-o,length_map]
 have K:Hid (((bG i).intercalate (d.map bG)).length<=140737488355328):=by
  show _<=_;have L:=sE (bG i) (d.map bG)
  have Y:((d.map bG).map List.length).sum<=d.length*100:=by
   rw[List.map_map];refine yN _ 100 d λag B=>?_;rw[<-o] at B;obtain⟨n,P,rfl⟩:=List.mem_map.1 B;show(bG (g n)).length<=100;rw[cD];exact v n P
  rw[length_map,cD] at L;have Z:d.length*i.size<=5*100:=Nat.mul_le_mul Q0 Q;omega
 have O:=@EL _ M;obtain⟨R,T,rfl,_⟩:=y;obtain⟨q,hW1⟩:=ex_ (c.alloc (.cells (Array.replicate l (.string ⟨#[]⟩)) 9));have x:Below c c q:=RT;have A:c.heap.size<q.heap.size:=RW
 have u:Hid (dq q c ((d.map ks).take 0++replicate (d.length-0) (.string ⟨#[]⟩))):=by
  show dq _ _ _;rw[<-hW1,List.take_zero,List.nil_append,C,Nat.sub_zero,<-List.toArray_replicate];exact oY
 clear w v;go_enter func34,ntmps34;go_wp2_with fail;clear hW1 O;go_loopw [13] (λr wr=>∃b:Nat,b<=l.length/\r=.int .i64 b/\Hid (dq wr c.heap.size ((d.map ks).take b++replicate (d.length-b) (.string ⟨#[]⟩))/\Below c c wr/\c.heap.size<wr.heap.size)) (λr _=>l.length-(intOf r).toNat)
 case atStart=>exact⟨0,zero_le _,rfl,u.out,x,A⟩
 clear u x A;obtain⟨b,aa,rfl,f⟩:=hrel;by_cases z:b<l.length
 .obtain⟨S,V,U,hv,ad,D⟩:=cN (H wr f.out.2.1) z;obtain⟨rfl,rfl⟩:R=some ⟨S,V,none⟩/\T=U:=RX;have ac:(b:Int)<(l.length:Int):=Q0;have ab:(0:Int)<=(b:Int):=Q0;have I:=G _ (List.getElem_mem z) wr f.out.2.1
  have J:Hid (∀j,Below wr wr j->j.cell? ⟨c,b,none⟩=some (.string ⟨#[]⟩)/\j.frozen? ⟨c,b,none⟩=false/\Hid (dq (j.setCell ⟨c,b,none⟩ (.string (g l[b]))) c ((d.map ks).take (b+1)++replicate (d.length-(b+1)) (.string ⟨#[]⟩))/\Below c c (j.setCell ⟨c,b,none⟩ (.string (g l[b])))/\c.heap.size<(j.setCell ⟨c,b,none⟩ (.string (g l[b]))).heap.size)):=λj h=>by
   have m:=E9 (j:=b) Q0 (f.out.1.a h f.out.2.2);have e:d[b]' Q0=g l[b]:=by subst o;simp
   rw[e] at m;have N:=bt_ f.out.2.1 h;refine⟨m.1,m.2.1,m.2.2,N.setCell (p:=⟨c,b,none⟩) (le_refl _) _,?_⟩;rw[cF];have:=h.size;have:=f.out.2.2;omega
  clear hv;unfold tZ at D;rw[Nat.mul_one] at D;generalize l[b]=ah at*;go_wp2_with(go_at_call 85;refine mo_ I λX h=>?_;obtain⟨ae,af,W⟩:=J _ h);go_roundw
  case rel=>exact⟨b+1,Q0,Rv,W⟩
  exact S6
 have t:=Ev c.heap.size 0 l d i wr (Fi (n:=d.length) (by have:=f.out.1;rwa[show d.length-b=0 by omega,List.replicate_zero,List.append_nil,show b=d.length by omega] at this) rfl) f.out.2.2 Q0 Q0 K.out;rw[C] at t;obtain rfl:b=l.length:=Q0;have F:Hid (mU i d=(⟨((bG i).intercalate (d.map bG)).toArray⟩:ByteArray)):=rfl;go_wp2_with(go_at_call 86;refine mo_ t λX h=>?_;replace h:Hid _:=h);go_ret;exact⟨by rw[o,F.out];rfl,f.out.2.1.trans (h.out.mono f.out.2.1.size)⟩
theorem Oc(b a):mU b [a]=a:=by
 unfold mU;simp[intercalate,gr]
theorem sK(a:World)(n:Nat):dD (a.alloc (.cells #[n] 3)) (.slice (some ⟨a,0,none⟩) 1 1) [n]:=
 wZ (B:=a.heap.size) (cap:=1) (l:=[n]) (oY (w:=a) (vs:=[.int .i64 (n:Int)]) (t:=3)) Q1 Q1
theorem yF(b:World)(c n d)(i:dD b c [n])(l:n<=99)(j:d.size<=100):Calls prog 34 #[.string d,c] b λe k=>e=.returned (.string (b_ n))/\Below b b k:=by
 have f:=yG b d c [n] (λa=>b_ a) i Q1 j (λa g=>by have:=gF a;omega) (λa g h _=>by
  obtain rfl:a=n:=by simpa using g
  refine mq_ (Eu a Q0 Q0 h) ?_
  exact⟨rfl,Below.refl _ _⟩)
 rw[map_cons,List.map_nil,Oc] at f;exact f
theorem yU(a:World)(b)(n:Nat)(g:b.n=(n:Int))(m:n<=25):Calls prog 103 #[.agg #[.bool b.var,n]] a λe j=>e=.returned (.string (dO b))/\Below a a j:=by
 obtain⟨h,o⟩:=b;simp only at g;subst g;have k:(0:Int)<=(n:Int):=Q0;have l:(n:Int)<=25:=Q0;cases h with
 |true=>
  have i:=sn (a.alloc (.cells #[.bool true,n] 100)) (65+(n:Int));rw[World.size_alloc] at i;go_enter func103,ntmps103;go_wp2_with fail;go_ret;exact⟨rfl,(bH _ _).alloc Q1 _⟩
 |false=>
  have f:=yF ((a.alloc (.cells #[.bool false,n] 100)).alloc (.cells #[n] 3)) _ n ⟨#[]⟩ (sK _ n) Q0 QY;rw[World.size_alloc] at f;have d:Hid (Below a a ((a.alloc (.cells #[.bool false,n] 100)).alloc (.cells #[n] 3))):=(bH _ _).alloc Q1 _;go_enter func103,ntmps103;go_wp2_with(go_at_call 34;refine mo_ f λp c=>?_;replace c:Hid _:=c);go_ret;exact⟨rfl,d.out.trans (c.out.mono d.out.size)⟩
theorem vz(b:World)(a s p)(c:cu b a s):Calls prog 68 #[.pointer (some ⟨a,0,none⟩),.string p] b λe d=>e=.returned (.bool (bT (bG p) s).isSome)/\Hid (cu d a ((bT (bG p) s).getD s)/\Ate a b d):=by
 refine mq_ (Fk b a s p c) ?_;exact⟨rfl,sR c _,sg _ _ _⟩
theorem P9{s a}{n:Nat}(c:n<3)(b:bT (bG (dO ⟨true,(n:Int)⟩)) s=some a):jj s=some (⟨true,(n:Int)⟩,a):=by
 rw[gi.1 b];exact vA R_ a
theorem P7{s a}{n:Nat}(c:n<5)(b:bT (bG (dO ⟨false,(n:Int)⟩)) s=some a):jj s=some (⟨false,(n:Int)⟩,a):=by
 rw[gi.1 b];exact vA R_ a
theorem P8{s}(d:∀n:Nat,n<3->bT (bG (dO ⟨true,(n:Int)⟩)) s=none)(f:∀n:Nat,n<5->bT (bG (dO ⟨false,(n:Int)⟩)) s=none):jj s=none:=by
 cases c:jj s with
 |none=>rfl
 |some h=>
  obtain⟨⟨g,n⟩,i⟩:=h;obtain⟨e,b⟩:=vB c;simp only[db,bQ,Bool.and_eq_true,decide_eq_true_eq] at b;obtain⟨a,rfl⟩:∃a:Nat,n=(a:Int):=⟨n.toNat,Q0⟩;cases g with
  |true=>
   simp only[if_true] at b;have:=d a Q0;rw[e,jU] at this;cases this
  |false=>
   simp only[Bool.false_eq_true,if_false] at b;have:=f a Q0;rw[e,jU] at this;cases this
theorem Ate.e{c a}{b f:World}(d:Ate c b f)(g:a≠c)(h:a<b.heap.size):f.heap[a]? =b.heap[a]? :=by
 rcases Nat.lt_or_gt_of_ne g with h1|h1
 .exact d.below.block a h1
 exact d.behind.2 a h1 h
theorem gE{a b k}{c f:World}{j}(d:Ate a c f)(m:c.heap.size<=b)(l:a<c.heap.size):Ate a c (f.setCell ⟨b,k,none⟩ j):=by
 refine⟨d.below.setCell (p:=⟨b,k,none⟩) (by show a<=b;omega) _,by rw[cF];exact d.behind.1,λg h i=>?_⟩;rw[h_ Q0];exact d.behind.2 g h i
theorem fP{a b k}{c:World}{s g}(d:cu c a s)(f:b≠a):cu (c.setCell ⟨b,k,none⟩ g) a s:=by
 unfold cu;rw[h_ f];exact d
def lk(w:World)(b:Nat)(x y:Value):Prop:=w.heap[b]? =some (.cells #[x,y] 100 (0,0))
theorem lk.a{c b}{f g:World}{h i}(d:lk f b h i)(j:Ate c f g)(k:b≠c):lk g b h i:=(j.e k (Array.getElem?_eq_some_iff.1 d).1).trans d
theorem lk.b{a}{c:World}{f g}(d:lk c a f g):c.cell? a=some f/\c.cell? ⟨a,1,none⟩=some g/\c.frozen? a=false/\c.frozen? ⟨a,1,none⟩=false:=by
 unfold lk at d;simp[World.cell?,World.frozen?,d]
theorem Ta(h:p:=by rw[<-hW1];exact Ate.c (bH _ _) (by omega)):p:=h
theorem Tb(h:p:=by rw[<-hW1];exact ji h (bH _ _)):p:=h
theorem Tc(h:p:=by rw[<-hW1];exact heap_alloc_new w _):p:=h
theorem Td(h:p:=by simp[results,results109,go_sem,x0,x1]):p:=h
theorem E7(w:World)(k s)(h:cu w k s):Calls prog 109 #[.pointer (some ⟨k,0,none⟩)] w (gD k w (jj s) λy H _=>H=.agg #[.bool y.var,y.n]):=by
 have x:=iy h;obtain⟨D,hW1⟩:=ex_ (w.alloc (.cells #[.bool false,.int .i64 0] 100));have o:Hid (Ate k w D):=Ta;have r:Hid (cu D k s):=Tb;have J:Hid (lk D w (.bool false) (.int .i64 0)):=Tc;go_enter func109,ntmps109;go_wp2_with fail;clear hW1;go_loopw [7] (λq wr=>∃f:Nat,f<=3/\q=.int .i64 f/\Hid ((cu wr k s/\Ate k w wr/\lk wr w.heap.size (.bool false) (.int .i64 0))/\∀j:Nat,j<f->bT (bG (dO ⟨true,(j:Int)⟩)) s=none)) (λq _=>3-(intOf q).toNat)
 case atStart=>exact⟨0,zero_le _,rfl,⟨r.out,o.out,J.out⟩,λj G=>Q0⟩
 clear o r J;obtain⟨f,O,rfl,g⟩:=hrel;by_cases F:f<3
 .have Q:(f:Int)<3:=Q0;have P:(0:Int)<=(f:Int):=Q0;have B:=yU (wr.alloc (.cells #[.bool true,f] 100)) ⟨true,(f:Int)⟩ f rfl Q0;have m:Hid (Ate k wr (wr.alloc (.cells #[.bool true,f] 100))/\cu (wr.alloc (.cells #[.bool true,f] 100)) k s/\lk (wr.alloc (.cells #[.bool true,f] 100)) wr (.bool true) f):=⟨Ate.c (bH _ _) (le_of_lt (iy g.out.1.1)),ji g.out.1.1 (bH _ _),heap_alloc_new wr _⟩;have K:=iy g.out.1.1;have M:=g.out.1.2.1.d;go_wp2_with fail;generalize E:wr.alloc (.cells #[.bool true,f] 100)=N at*;clear E;refine mo_ B λI p=>?_;have o:=hid_ (Ate.c p (le_of_lt (iy m.out.2.1)));have r:=hid_ (ji m.out.2.1 p);have z:=vz I k s (dO ⟨true,(f:Int)⟩) r.out;clear p;go_wp2_with fail;refine mo_ z λR i=>?_;have t:=hid_ (g.out.1.2.1.a (m.out.1.a (o.out.a i.out.2)));have v:=hid_ (g.out.1.2.2.a (m.out.1.a (o.out.a i.out.2)) Q0);have C:=hid_ (m.out.2.2.a (o.out.a i.out.2) Q0);cases l:bT (bG (dO ⟨true,(f:Int)⟩)) s with
  |some y=>
   have u:=hid_ (P9 F l);rw[l] at i;simp only[isSome_some,getD_some] at i⊢;obtain⟨x0,x1,S,T⟩:=v.out.b;obtain⟨U,V,_,_⟩:=C.out.b;clear l;go_wp2_with fail;exact bodyPost_ret (v:=.agg #[.bool true,f]) Td rfl (lU u (gE (gE t (le_refl _) x) (le_refl _) x) rfl (fP (fP i.out.1 Q0) Q0))
  |none=>
   rw[l] at i;simp only[isSome_none,getD_none] at i⊢
   have A:Hid (∀j:Nat,j<f+1->bT (bG (dO ⟨true,(j:Int)⟩)) s=none):=λj G=>by
    by_cases e:j=f
    .subst e;exact l
    exact g.out.2 j Q0
   clear l;go_wp2_with fail;go_roundw
   case rel=>exact⟨f+1,Q0,Rv,⟨i.out.1,t.out,v.out⟩,A.out⟩
   exact S6
 obtain rfl:f=3:=Q0;have L:=hid_ g.out.2;go_wp2_with fail;go_loopw [18] (λq wr=>∃f:Nat,f<=5/\q=.int .i64 f/\Hid ((cu wr k s/\Ate k w wr/\lk wr w.heap.size (.bool false) (.int .i64 0))/\∀j:Nat,j<f->bT (bG (dO ⟨false,(j:Int)⟩)) s=none)) (λq _=>5-(intOf q).toNat)
 case atStart=>exact⟨0,zero_le _,rfl,g.out.1,λj G=>Q0⟩
 clear g;obtain⟨f,O,rfl,g⟩:=hrel;by_cases F:f<5
 .have Q:(f:Int)<5:=Q0;have P:(0:Int)<=(f:Int):=Q0;have B:=yU (wr.alloc (.cells #[.bool false,f] 100)) ⟨false,(f:Int)⟩ f rfl Q0;have m:Hid (Ate k wr (wr.alloc (.cells #[.bool false,f] 100))/\cu (wr.alloc (.cells #[.bool false,f] 100)) k s/\lk (wr.alloc (.cells #[.bool false,f] 100)) wr (.bool false) f):=⟨Ate.c (bH _ _) (le_of_lt (iy g.out.1.1)),ji g.out.1.1 (bH _ _),heap_alloc_new wr _⟩;have K:=iy g.out.1.1;have M:=g.out.1.2.1.d;go_wp2_with fail;generalize E:wr.alloc (.cells #[.bool false,f] 100)=N at*;clear E;refine mo_ B λI p=>?_;have o:=hid_ (Ate.c p (le_of_lt (iy m.out.2.1)));have r:=hid_ (ji m.out.2.1 p);have z:=vz I k s (dO ⟨false,(f:Int)⟩) r.out;clear p;go_wp2_with fail;refine mo_ z λR i=>?_;have t:=hid_ (g.out.1.2.1.a (m.out.1.a (o.out.a i.out.2)));have v:=hid_ (g.out.1.2.2.a (m.out.1.a (o.out.a i.out.2)) Q0);have C:=hid_ (m.out.2.2.a (o.out.a i.out.2) Q0);cases l:bT (bG (dO ⟨false,(f:Int)⟩)) s with
  |some y=>
   have u:=hid_ (P7 F l);rw[l] at i;simp only[isSome_some,getD_some] at i⊢;obtain⟨x0,x1,S,T⟩:=v.out.b;obtain⟨U,V,_,_⟩:=C.out.b;clear l;go_wp2_with fail;exact bodyPost_ret (v:=.agg #[.bool false,f]) Td rfl (lU u (gE (gE t (le_refl _) x) (le_refl _) x) rfl (fP (fP i.out.1 Q0) Q0))
  |none=>
   rw[l] at i;simp only[isSome_none,getD_none] at i⊢
   have A:Hid (∀j:Nat,j<f+1->bT (bG (dO ⟨false,(j:Int)⟩)) s=none):=λj G=>by
    by_cases e:j=f
    .subst e;exact l
    exact g.out.2 j Q0
   clear l;go_wp2_with fail;go_roundw
   case rel=>exact⟨_,_,_,_,_,_,_,_,_,_,_,_,_,⟨f+1,Q0,Rv,⟨i.out.1,t.out,v.out⟩,A.out⟩,rfl⟩
   exact S6
 obtain rfl:f=5:=Q0;have u:=hid_ (P8 L g.out.2);go_wp2_with fail;exact⟨rfl,ft u g.out.1.2.1⟩
def ox(p:Prd->Bool)(xs:List Prd):Int:=match xs.findIdx? p with
 |some k=>(k:Int)
 |none=> -1
theorem N4{p:Prd->Bool}{a}{b:Nat}(f:b<a.length)(g:(a.take b).any p=false)(d:p a[b]=true):ox p a=(b:Int):=by
 unfold ox
 have e:a.findIdx? p=some b:=List.findIdx?_eq_some_iff_getElem.2 ⟨f,d,λc h=>by
  have:=List.any_eq_false.1 g a[c] (by rw[List.mem_take_iff_getElem];exact⟨c,Q0,rfl⟩)
  simpa using this⟩
 rw[e]
theorem N5{p:Prd->Bool}{a}(b:a.any p=false):ox p a= -1:=by
 unfold ox
 have e:a.findIdx? p=none:=by
  rw[List.findIdx?_eq_none_iff];exact λd c=>by have:=List.any_eq_false.1 b d c;simpa using this
 rw[e]
theorem N7(c:World)(x b g w)(I:∀t c,(callFunc g t).run prog c=.ok (.enter g t) c)(p:Prd->Bool)(f:bR c x b)(u:ic fS g w p b c):Calls prog 107 #[x,.func (.func g) #[] w] c λe F=>e=.returned (.int .i64 (ox p b))/\Below c c F:=by
 obtain⟨O,P,rfl,M,f⟩:=f;have l:=hid_ f;have j:=hid_ u;clear f u;go_enter func107,ntmps107;go_wp2_with fail;go_loopw [8] (λo wr=>∃a:Nat,a<=b.length/\o=.int .i64 a/\(b.take a).any p=false/\Below c c wr) (λo _=>b.length-(intOf o).toNat)
 case atStart=>exact⟨0,zero_le _,rfl,rfl,Below.refl _ _⟩
 obtain⟨a,J,rfl,hno,d⟩:=hrel;by_cases hlt:a<b.length
 .obtain⟨H,N,rfl,n,f⟩:=l.out.resolve_left Rt;have h:=j wr b[a] d (List.getElem_mem hlt);have k:Hid ((b.take (a+1)).any p=p b[a]):=RO;have i:=hid_ (λz=>N4 hlt hno z);have A:=f a b[a] Ru;have L:(a:Int)<(b.length:Int):=Q0;have K:(0:Int)<=(a:Int):=Q0;clear f hno j l;generalize b[a]=B at*;obtain⟨E,C,D⟩:=B;obtain⟨q,r,s⟩:=A;replace q:=(bF d n).trans q;replace r:=(bF d n).trans r;replace s:=(bF d n).trans s;simp only[fS] at h;dsimp only at q r s;cases v:p ⟨E,C,D⟩
  .rw[v] at h k;clear i;go_wp2_with(go_at_fn g;refine mo_ h λG m=>?_);go_roundw
   case rel=>exact⟨a+1,Q0,Rv,k.out,d.trans (m.mono d.size)⟩
   exact S6
  rw[v] at h i;have y:=hid_ (i rfl);clear k i;go_wp2_with(go_at_fn g;refine mo_ h λG m=>?_);go_ret;exact⟨by rw[y.out];rfl,d.trans (m.mono d.size)⟩
 have HE:=hid_ (N5 (l8 hlt hno));clear hno j l;go_wp2_with fail;go_ret;exact⟨RZ,d⟩
theorem nM(a b):(a.toList==b.toList)=decide (bG a=bG b):=by
 rw[ByteArray.toList_eq,ByteArray.toList_eq];show(bG a==bG b)=_;rw[Bool.eq_iff_iff];simp
theorem MF(b:World)(a)(c:Nat)(d)(f:b.cell? c=some (.string d))(g:c<b.heap.size):Calls prog 108 #[fS a,.pointer (some ⟨c,0,none⟩)] b λe h=>e=.returned (.bool (decide (bG a.name=bG d)))/\Below b b h:=by
 have i:(b.alloc (.cells #[.string a.name,a.arity,a.kind] 51)).cell? c=some (.string d):=(bF (bH _ _) g).trans f;unfold fS;go_enter func108,ntmps108;go_wp2_with fail;go_ret;exact⟨pz (nM a.name d),bH _ _⟩
theorem NC:∀a b,(callFunc 108 a).run prog b=.ok (.enter 108 a) b:=enters_of func108 QX rfl
theorem N8(a:World)(f d)(b:Nat)(c)(m:bR a f d)(l:a.cell? b=some (.string (bN c)))(i:b<a.heap.size):Calls prog 107 #[f,.func (.func 108) #[] #[.pointer (some ⟨b,0,none⟩)]] a λe n=>e=.returned (.int .i64 (match oy d c with|some k=>(k:Int)|none=> -1))/\Below a a n:=by
 have:=N7 a f d 108 #[.pointer (some ⟨b,0,none⟩)] NC (λg=>decide (bG g.name=c)) m (λo g j _=>by
  have h:=MF o g b (bN c) ((bF j i).trans l) (Nat.lt_of_lt_of_le i j.size);rw[de] at h
  exact h)
 exact this
