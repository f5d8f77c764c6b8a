import Derived.Test.YtlfccloaoopadagGreatDoorRows
import Derived.WalkSpells
import Derived.WalkLawsBesides
import Derived.Outline
import Derived.ProofKit
import Derived.OpenShut
import Derived.Laws.EntriesVeiled
import Derived.Test.YtlfccloaoopadagGreatDoorG1
open Go.Proofs.Tryz
set_option maxRecDepth 100000
set_option maxHeartbeats 0
open Nat (le_refl)
namespace Go.Proofs.YtlfccloaoopadagGreatDoor
open Go.ChangeShapes Go.WideShapes Go.ChangeAt Go.RowKit
variable{p:Prop}
theorem Q2(h:p:=by simpa using h):p:=h
theorem adX(h:p:=by
 go_ret
 exact⟨rfl,rfl⟩):p:=h
theorem aek(h:p:=by
 go_wp2
 exact adX):p:=h
theorem AG(k:Int)(a:World):Calls prog 218 #[k] a λe b=>e=.returned (.int .i64 (jq k))/\b=a:=by
 by_cases h:k=0
 .have e:jq k=0:=by simp[jq,h]
  rw[e];subst h;go_enter func218,ntmps218;exact aek
 have e:jq k=15:=by simp[jq,h]
 rw[e];have c:(k==0)=false:=Q2;go_enter func218,ntmps218;exact aek
theorem afx(h:p:=by
 rw[e]
 go_enter func179,ntmps179
 go_wp2_with(go_at_call 218;refine mq_ (AG _ _) ?_)
 exact adX):p:=h
theorem aeJ(h:p:=by
 rw[e]
 go_enter func179,ntmps179
 exact aek):p:=h
theorem iH(k a:Int)(g:World):Calls prog 179 #[k,a] g λe h=>e=.returned (.int .i64 (cp k a))/\h=g:=by
 by_cases b:k<0
 .have e:cp k a=4:=by simp[cp,b]
  exact aeJ
 by_cases c:4<=k
 .have e:cp k a=4:=by simp[cp,c]
  exact aeJ
 by_cases d:a<0
 .have e:cp k a=3:=by simp[cp,b,c,d]
  exact aeJ
 by_cases f:jq k<a
 .have e:cp k a=3:=by simp[cp,b,c,f]
  exact afx
 have e:cp k a=0:=by simp[cp,b,c,d,f]
 exact afx
theorem Ig(a:World):Calls prog 241 #[] a λe b=>e=.returned (.agg #[.func (.func 259) #[] #[],.func (.func 260) #[] #[],.func (.func 261) #[] #[],.func (.func 262) #[] #[]])/\Below a a b:=by
 go_enter func241,ntmps241;go_wp2;exact bodyPost_ret (v:=.agg #[.func (.func 259) #[] #[],.func (.func 260) #[] #[],.func (.func 261) #[] #[],.func (.func 262) #[] #[]]) (by simp[results,results241,go_sem]) rfl ⟨rfl,(Below.refl _ _).alloc (le_refl _) _⟩
theorem Io(a:World):Calls prog 274 #[] a λe b=>e=.returned (.agg #[.func (.func 280) #[] #[],.func (.func 281) #[] #[],.func (.func 282) #[] #[],.func (.func 283) #[] #[]])/\Below a a b:=by
 go_enter func274,ntmps274;go_wp2;exact bodyPost_ret (v:=.agg #[.func (.func 280) #[] #[],.func (.func 281) #[] #[],.func (.func 282) #[] #[],.func (.func 283) #[] #[]]) (by simp[results,results274,go_sem]) rfl ⟨rfl,(Below.refl _ _).alloc (le_refl _) _⟩
theorem H_(b c:Int)(a:World):Calls prog 259 #[b,c] a λe d=>e=.returned (.int .i64 0)/\d=a:=by
 go_enter func259,ntmps259;exact aek
theorem Ia(a b:Int)(d:World):Calls prog 260 #[a,b] d λe f=>e=.returned (.int .i64 (jI a b))/\f=d:=by
 unfold jI;by_cases c:a<b
 .rw[if_pos c];go_enter func260,ntmps260;exact aek
 rw[if_neg c];go_enter func260,ntmps260;exact aek
theorem Ib(a b:Int)(c:World):Calls prog 261 #[a,b] c λe f=>e=.returned (.int .i64 (jJ a b))/\f=c:=by
 unfold jJ;by_cases g:b<a
 .rw[if_neg Q0];go_enter func261,ntmps261;exact aek
 have e:(if a<b then a else b)=a:=by by_cases d:a<b<;>simp[d];omega
 rw[e];go_enter func261,ntmps261;exact aek
theorem Ic(a b:Int)(c:World):Calls prog 262 #[a,b] c λe d=>e=.returned (.int .i64 (nr a b))/\d=c:=by
 go_enter func262,ntmps262;exact aek
theorem Ij(b c:Int)(a:World):Calls prog 280 #[b,c] a λe d=>e=.returned (.int .i64 0)/\d=a:=by
 go_enter func280,ntmps280;exact aek
theorem Ik(a b:Int)(d:World)(g:0<=a)(h:a<=15)(i:0<=b)(j:b<=15):Calls prog 281 #[a,b] d λe f=>e=.returned (.int .i64 (eM (a+b)))/\f=d:=by
 by_cases c:15<a+b
 .have e:eM (a+b)=15:=by simp[eM,c]
  rw[e];go_enter func281,ntmps281;exact aek
 have e:eM (a+b)=a+b:=by simp[eM,c]
 rw[e];go_enter func281,ntmps281;exact aek
theorem Il(a b:Int)(d:World)(g:0<=a)(h:a<=15)(i:0<=b)(j:b<=15):Calls prog 282 #[a,b] d λe f=>e=.returned (.int .i64 (eM (a+b)))/\f=d:=by
 by_cases c:15<a+b
 .have e:eM (a+b)=15:=by simp[eM,c]
  rw[e];go_enter func282,ntmps282;exact aek
 have e:eM (a+b)=a+b:=by simp[eM,c]
 rw[e];go_enter func282,ntmps282;exact aek
theorem Im(a b:Int)(c:World):Calls prog 283 #[a,b] c λe d=>e=.returned (.int .i64 (nr a b))/\d=c:=by
 go_enter func283,ntmps283;exact aek
theorem Q5(h:p:=by simpa using h2):p:=h
theorem Q6(h:p:=by simpa using h1):p:=h
theorem Za(h:p:=by
 go_ret2
 exact⟨rfl,(Below.refl _ _).alloc (le_refl _) _⟩):p:=h
theorem afv(h:p:=by
 rw[e,e2]
 clear e e2
 have h2':(cp k b != 0)=true:=Q5
 go_enter func240,ntmps240
 go_wp2_with(go_at_call 179;refine mq_ (iH _ _ _) ?_)
 exact Za):p:=h
theorem Iq(k a b:Int)(d:World):
 Calls prog 240 #[.agg #[.func (.func 259) #[] #[],.func (.func 260) #[] #[],.func (.func 261) #[] #[],.func (.func 262) #[] #[]],k,a,b] d λe g=>e=.returned (.tuple #[.int .i64 (lE k a b),.int .i64 (ij k a b)])/\Below d d g:=by
 by_cases h1:cp k a=0
 .by_cases h2:cp k b=0
  .have e:ij k a b=0:=by simp[ij,h1,h2]
   obtain⟨f,i,j⟩:=gz h1
   obtain⟨_,l,m⟩:=gz h2
   have e2:lE k a b=dv k a b:=by simp[lE,e]
   rw[e,e2]
   rcases f with rfl|rfl|rfl|rfl
   .have c:dv 0 a b=0:=rfl
    rw[c]
    clear e e2 c
    go_enter func240,ntmps240
    go_wp2_with(first|(go_at_call 179;refine mq_ (iH _ _ _) ?_)|(go_at_call 259;refine mq_ (H_ _ _ _) ?_))
    exact Za
   .have c:dv 1 a b=jI a b:=rfl
    rw[c]
    clear e e2 c
    go_enter func240,ntmps240
    go_wp2_with(first|(go_at_call 179;refine mq_ (iH _ _ _) ?_)|(go_at_call 260;refine mq_ (Ia _ _ _) ?_))
    exact Za
   .have c:dv 2 a b=jJ a b:=rfl
    rw[c]
    clear e e2 c
    go_enter func240,ntmps240
    go_wp2_with(first|(go_at_call 179;refine mq_ (iH _ _ _) ?_)|(go_at_call 261;refine mq_ (Ib _ _ _) ?_))
    exact Za
   have c:dv 3 a b=nr a b:=rfl
   rw[c]
   clear e e2 c
   go_enter func240,ntmps240
   go_wp2_with(first|(go_at_call 179;refine mq_ (iH _ _ _) ?_)|(go_at_call 262;refine mq_ (Ic _ _ _) ?_))
   exact Za
  have e:ij k a b=cp k b:=by simp[ij,h1]
  have e2:lE k a b=0:=by simp[lE,e,h2]
  exact afv
 have e:ij k a b=cp k a:=by simp[ij,h1]
 have e2:lE k a b=0:=by simp[lE,e,h1]
 rw[e,e2]
 clear e e2
 have h:(cp k a != 0)=true:=Q6
 go_enter func240,ntmps240
 go_wp2_with(go_at_call 179;refine mq_ (iH _ _ _) ?_)
 go_ret2
 exact⟨rfl,(Below.refl _ _).alloc (le_refl _) _⟩
theorem Q7(h:p:=by assumption):p:=h
theorem Ir(k a b:Int)(d:World):
 Calls prog 240 #[.agg #[.func (.func 280) #[] #[],.func (.func 281) #[] #[],.func (.func 282) #[] #[],.func (.func 283) #[] #[]],k,a,b] d λe g=>e=.returned (.tuple #[.int .i64 (mI k a b),.int .i64 (ij k a b)])/\Below d d g:=by
 by_cases h1:cp k a=0
 .by_cases h2:cp k b=0
  .have e:ij k a b=0:=by simp[ij,h1,h2]
   obtain⟨f,i,j⟩:=gz h1
   obtain⟨_,l,m⟩:=gz h2
   have e2:mI k a b=fG k a b:=by simp[mI,e]
   rw[e,e2]
   rcases f with rfl|rfl|rfl|rfl
   .have c:fG 0 a b=0:=rfl
    rw[c]
    clear e e2 c
    go_enter func240,ntmps240
    go_wp2_with(first|(go_at_call 179;refine mq_ (iH _ _ _) ?_)|(go_at_call 280;refine mq_ (Ij _ _ _) ?_))
    exact Za
   .have c:fG 1 a b=eM (a+b):=rfl
    rw[c]
    clear e e2 c
    go_enter func240,ntmps240
    go_wp2_with(first|(go_at_call 179;refine mq_ (iH _ _ _) ?_)|(go_at_call 281;refine mq_ (Ik _ _ _ Q7 Q7 Q7 Q7) ?_))
    exact Za
   .have c:fG 2 a b=eM (a+b):=rfl
    rw[c]
    clear e e2 c
    go_enter func240,ntmps240
    go_wp2_with(first|(go_at_call 179;refine mq_ (iH _ _ _) ?_)|(go_at_call 282;refine mq_ (Il _ _ _ Q7 Q7 Q7 Q7) ?_))
    exact Za
   have c:fG 3 a b=nr a b:=rfl
   rw[c]
   clear e e2 c
   go_enter func240,ntmps240
   go_wp2_with(first|(go_at_call 179;refine mq_ (iH _ _ _) ?_)|(go_at_call 283;refine mq_ (Im _ _ _) ?_))
   exact Za
  have e:ij k a b=cp k b:=by simp[ij,h1]
  have e2:mI k a b=0:=by simp[mI,e,h2]
  exact afv
 have e:ij k a b=cp k a:=by simp[ij,h1]
 have e2:mI k a b=0:=by simp[mI,e,h1]
 rw[e,e2]
 clear e e2
 have h:(cp k a != 0)=true:=Q6
 go_enter func240,ntmps240
 go_wp2_with(go_at_call 179;refine mq_ (iH _ _ _) ?_)
 go_ret2
 exact⟨rfl,(Below.refl _ _).alloc (le_refl _) _⟩
theorem Hx(k a b:Int)(c:World):
 Calls prog 202 #[k,a,b] c λe g=>e=.returned (.tuple #[.int .i64 (lE k a b),.int .i64 (ij k a b)])/\Below c c g:=by
 go_enter func202,ntmps202
 go_wp2_with fail
 refine mo_ (Ig _) λh d=>?_
 go_wp2_with fail
 refine mo_ (Iq _ _ _ _) λi f=>?_
 go_wp2_with fail
 go_ret2
 exact⟨rfl,d.trans (f.mono d.size)⟩
theorem Hy(k a b:Int)(c:World):
 Calls prog 258 #[k,a,b] c λe g=>e=.returned (.tuple #[.int .i64 (mI k a b),.int .i64 (ij k a b)])/\Below c c g:=by
 go_enter func258,ntmps258
 go_wp2_with fail
 refine mo_ (Io _) λh d=>?_
 go_wp2_with fail
 refine mo_ (Ir _ _ _ _) λi f=>?_
 go_wp2_with fail
 go_ret2
 exact⟨rfl,d.trans (f.mono d.size)⟩
theorem aeM(h:p:=by
 go_enter func87,ntmps87
 exact aek):p:=h
theorem et(n b a:Int)(c:World):Calls prog 87 #[n,b,a] c λe d=>e=.returned (.bool (bQ n b a))/\d=c:=by
 by_cases h1:b<=n
 .by_cases h2:n<=a
  .have e:bQ n b a=true:=by simp[bQ,h1,h2]
   rw[e];exact aeM
  have e:bQ n b a=false:=by simp[bQ,h1,h2]
  rw[e];have g:decide (n<=a)=false:=Q5;exact aeM
 have e:bQ n b a=false:=by simp[bQ,h1]
 rw[e];have f:decide (b<=n)=false:=Q6;exact aeM
theorem Q8(h:p:=by simpa using h0):p:=h
theorem Q9(h:p:=by simpa[bQ] using h2):p:=h
theorem afp(h:p:=by
 go_enter func231,ntmps231
 go_wp2_with(go_at_call 87;refine mq_ (et _ _ _ _) ?_)
 exact adX):p:=h
theorem wF(k a:Int)(d:World):Calls prog 231 #[k,a] d λe g=>e=.returned (.int .i64 (cp k a))/\g=d:=by
 by_cases h1:bQ k 0 3=true
 .have b:=by simpa[bQ] using h1
  by_cases h0:k=0
  .subst h0;by_cases h2:a=0
   .subst h2;have e:cp 0 0=0:=rfl;rw[e];have j:bQ 0 0 15=true:=rfl;exact afp
   have e:cp 0 a=3:=by simp[cp,jq];omega
   rw[e];have f:(a != 0)=true:=Q5;exact afp
  have h:(k==0)=false:=Q8;by_cases h2:bQ a 0 15=true
  .have c:=Q9
   have e:cp k a=0:=by
    unfold cp jq;rw[if_neg Q0,if_neg h0,if_neg Q0]
   rw[e];clear h0;exact afp
  have f:=Q5;have c:a<0\/15<a:=by simp[bQ] at h2;omega
  have e:cp k a=3:=by
   unfold cp jq;rw[if_neg Q0,if_neg h0,if_pos c]
  rw[e];clear h0 h2 c;exact afp
 have i:=Q6;have b:k<0\/4<=k:=by simp[bQ] at h1;omega
 have e:cp k a=4:=by simp[cp,b]
 rw[e];clear h1 b;exact afp
theorem aeE(h:p:=by
 rw[e]
 go_enter func146,ntmps146
 exact aek):p:=h
theorem Id(k a b:Int)(d:World)(g:k=0\/k=1\/k=2\/k=3):Calls prog 146 #[k,a,b] d λe h=>e=.returned (.int .i64 (dv k a b))/\h=d:=by
 rcases g with rfl|rfl|rfl|rfl
 .have e:dv 0 a b=0:=rfl;exact aeE
 .by_cases c:b<a
  .have e:dv 1 a b=a:=by show jI a b=a;unfold jI;rw[if_neg Q0]
   exact aeE
  have e:dv 1 a b=b:=by show jI a b=b;unfold jI;by_cases f:a<b<;>simp[f];omega
  exact aeE
 .by_cases c:a<b
  .have e:dv 2 a b=a:=by show jJ a b=a;unfold jJ;rw[if_pos c]
   exact aeE
  have e:dv 2 a b=b:=by show jJ a b=b;unfold jJ;rw[if_neg c]
  exact aeE
 have e:dv 3 a b=bits BinOp.or IntKind.i64 a b:=rfl;exact aeE
theorem Q_(h:p:=by show eM (a+b)=15;unfold eM;rw[if_pos h]):p:=h
theorem Ra(h:p:=by show eM (a+b)=a+b;unfold eM;rw[if_neg h]):p:=h
theorem aeF(h:p:=by
 rw[e]
 go_enter func144,ntmps144
 exact aek):p:=h
theorem AI(k a b:Int)(c:World)(d:k=0\/k=1\/k=2\/k=3)(g:0<=a)(i:a<=15)(j:0<=b)(l:b<=15):Calls prog 144 #[k,a,b] c λe f=>e=.returned (.int .i64 (fG k a b))/\f=c:=by
 rcases d with rfl|rfl|rfl|rfl
 .have e:fG 0 a b=0:=rfl;exact aeF
 .by_cases h:15<a+b
  .have e:fG 1 a b=15:=Q_;exact aeF
  have e:fG 1 a b=a+b:=Ra;exact aeF
 .by_cases h:15<a+b
  .have e:fG 2 a b=15:=Q_;exact aeF
  have e:fG 2 a b=a+b:=Ra;exact aeF
 have e:fG 3 a b=bits BinOp.or IntKind.i64 a b:=rfl;exact aeF
