/-
  RatfTells: the law returns true for every input, and leaves its arguments and all memory that was there as they were. No condition.
-/
import Derived.Test.YtocebjbjnfammaaGreatTG26
import Derived.Test.YtocebjbjnfammaaGreatTG8
import Derived.Test.YtocebjbjnfammaaGreatTG5
import Derived.Deep.RegionHeld3
import Derived.Deep.CutRange
import Derived.Test.YtocebjbjnfammaaGreatTG13
import Derived.Test.YtocebjbjnfammaaGreatTG23
import Derived.Test.YtocebjbjnfammaaGreatTG25
import Derived.Test.YtocebjbjnfammaaGreatTG19
import Derived.Test.YtocebjbjnfammaaGreatTG22
import Derived.Test.YtocebjbjnfammaaGreatTG6
import Derived.Test.YtocebjbjnfammaaGreatTG3
import Derived.Test.YtocebjbjnfammaaGreatTG1
import Derived.Test.YtocebjbjnfammaaGreatTG17
import Derived.Test.YtocebjbjnfammaaGreatTG14
import Derived.WalkKit
import Derived.ProofKit
import Derived.OpenShut
import Derived.Lib.SmallJoins
set_option maxRecDepth 4096
set_option maxHeartbeats 16000000
namespace Go.Proofs.YtocebjbjnfammaaGreat
open Go.RowKit
theorem px_{X:List Rat}{S:Nat}(h:Ints X (pw S)):∀q∈X,qlen q≤S+2:=co_ fun i=>by
 obtain⟨z,h1,h2⟩:=h i
 rw[h1]
 exact te_ h2
theorem ug_{x:Rat}{X:Nat}(hx:qlen x≤X):∀j:Nat,qlen (x ^ j)≤2+j * (X+1)
 | 0=>by
   rw[Rat.pow_zero]
   have h1:qlen 1≤2:=b4_ (z:=1) (by decide)
   omega
 | j+1=>by
   have h1:=ug_ hx j
   have h2:=ci_ (x ^ j) x
   rw[Rat.pow_succ,Nat.add_mul,Nat.one_mul]
   omega
theorem fpow_nz{x:Rat}(hx:x≠0):∀j:Nat,x ^ j≠0
 | 0=>by rw[Rat.pow_zero];decide
 | j+1=>fun e=>by
   rw[Rat.pow_succ] at e
   rcases Rat.mul_eq_zero.1 e with g | g
   ·exact fpow_nz hx j g
   ·exact hx g
theorem poly_rest(a:OA_)(n c:Nat)(X:LR_)(b:OA_)(m d:Nat)(Y:LR_)(S h9:Nat)(w:World)(h:Rw w a n c X)(k:Rw w b m d Y)(hn:n≤h9)(hm:m≤h9)(hh:h9≤300)(hY:ah_ Y=Y)(h0:0 < Y.length)(hIX:Ints X (pw S))(hIY:Ints Y (pw S))(hb:(2 * h9+8) * (S+3)≤1900000000) :
 Calls Tryz.prog 141 #[.slice a n c,.slice b m d] w (fun e w'=>∃(a':OA_) (n' c':Nat) (f:Rat) (q r:LR_),e=.returned (.slice a' n' c')∧Rw w' a' n' c' r∧f≠0∧isDiv (ag_ f X) Y q r∧ah_ r=r∧(∀x∈r,qlen x≤(2 * h9+8) * (S+3))∧Below w.heap.size w w'):=by
 have hbd:=h.bound
 have hbd2:=k.bound
 have hl1:=h.len
 have hl2:=k.len
 obtain⟨e,rfl⟩:∃e,m=e+1:=⟨m - 1,by omega⟩
 obtain⟨y,hy⟩:∃y,Y.getD e 0=y:=⟨_,rfl⟩
 have hy0:y≠0:=by
  have h8:=gf_ hY h0
  rw[hl2,show e+1 - 1=e by omega,hy] at h8
  exact h8
 have hXq:=px_ hIX
 have hYq:=px_ hIY
 have hyl:qlen y≤S+2:=by rw[←hy];exact hYq _ (fq_ (by omega))
 have hS9:(n+1) * (S+3)≤(h9+1) * (S+3):=Nat.mul_le_mul_right _ (by omega)
 have hS8:(2 * h9+8) * (S+3)=(h9+1) * (S+3)+(h9+1) * (S+3)+6 * (S+3):=by rw[←Nat.add_mul,←Nat.add_mul];congr 1;omega
 have hFL:∀j,j≤n+1→qlen (y ^ j)≤2+(h9+1) * (S+3):=fun j hj=>by
  have h8:=ug_ hyl j
  have h7:j * (S+2+1)≤(h9+1) * (S+3):=Nat.mul_le_mul (by omega) (by omega)
  omega
 have HFL:Hid (∀j,j≤n+1→qlen (y ^ j)≤1900000000):=hd_ (fun j hj=>by have h8:=hFL j hj;omega)
 have HDV:∀(w':World) (a':OA_) (n' c':Nat) (f:Rat),f≠0→qlen f≤2+(h9+1) * (S+3)→Rw w' a' n' c' (ag_ f X)→Rw w' b (e+1) d Y→Calls Tryz.prog 107 #[.slice a' n' c',.slice b (e+1) d] w' (fun ed w''=>∃(a1:OA_) (n1 c1:Nat) (a2:OA_) (n2 c2:Nat) (q r:LR_),ed=.returned (.tuple #[.slice a1 n1 c1,.slice a2 n2 c2,.bool true])∧Rw w'' a2 n2 c2 r∧isDiv (ag_ f X) Y q r∧ah_ r=r∧(∀x∈r,qlen x≤(2 * h9+8) * (S+3))∧Below w'.heap.size w' w''):=fun w' a' n' c' f hf hfl k1 k2=>by
  have hq1:∀q∈ag_ f X,qlen q≤2000000000:=fun q hq=>by
   have h8:=el_ hfl hXq q hq
   omega
  obtain⟨L1,l1,l2,l3⟩:=k1.thin hq1
  obtain⟨M1,m1,m2,m3⟩:=k2.thin (N:=2000000000) (fun q hq=>Nat.le_trans (hYq q hq) (by omega))
  obtain⟨z,hz⟩:=DivL.of hY h0 hIY (l:=1) (fun i=>by rw[aj_,Rat.one_mul])
  have h1l:qlen 1≤2:=b4_ (z:=1) (by decide)
  have hrl:(ah_ (ag_ f X)).length≤n:=Nat.le_trans (az_ _) (by rw[a9_,hl1];exact Nat.le_refl _)
  have hmul:(n+1 - Y.length) * (S+1)≤(n+1) * (S+3):=Nat.mul_le_mul (by omega) (by omega)
  have hW:=DivWay.new (A:=ag_ f X) (K:=S+2) (n:=n) (s:=S) (k:=f) (T:=(2 * h9+8) * (S+3)) hz hrl hIX (peq.refl _) (Nat.le_refl _) (by omega)
  have hn':n'=n:=by rw[←k1.len,a9_,hl1]
  have h8:=na_ a' n' c' L1 b (e+1) d M1 (S+2) ((2 * h9+8) * (S+3)) _ w' l1 m1 (by omega) (by omega) l3 m3 (by rw[m2,hY];exact hYq) (by rw[m2,a0_ hY];omega) (by rw[l2,m2,hY];exact hW) (by omega) (by omega)
  refine h8.mono fun ed w'' h7=>?_
  obtain⟨a1,n1,c1,q,a2,n2,c2,r,g1,g2,g3,g4,g5,g6,⟨Q,g7,g8⟩,g9⟩:=h7
  rw[l2,m2,hY] at g4
  exact⟨a1,n1,c1,a2,n2,c2,q,r,g1,g3,g4,g6,(hW.room g8).1,g9⟩
 have HSC:∀(w':World) (v:Value) (f:Rat),Fr w' v f 2097152000→Rw w' a n c X→Calls Tryz.prog 110 #[v,.slice a n c] w' (b5_ (ag_ f X) w'):=fun w' v f k1 k2=>by
  obtain⟨L1,l1,l2,l3⟩:=k2.thin hXq
  have h8:=h2_ v f a n c L1 w' k1 l1 (by omega) (l3.mono (by omega))
  rwa [l2] at h8
 have HF2:Hid (∀j,j≤n+1→qlen (y ^ j)≤2+(h9+1) * (S+3)):=hd_ hFL
 obtain⟨K9,hK9⟩:∃K9,(2 * h9+8) * (S+3)=K9:=⟨_,rfl⟩
 obtain⟨K8,hK8⟩:∃K8,2+(h9+1) * (S+3)=K8:=⟨_,rfl⟩
 have HFN:Hid (∀j,y ^ j≠0):=hd_ (fpow_nz hy0)
 simp only[hK9,hK8] at HDV HF2 hb ⊢
 have hyl9:qlen y≤1900000000:=by omega
 have HYL:=hd_ hyl9
 have HX:=hd_ h
 have HYR:=hd_ k
 have HY9:=hd_ hy
 obtain⟨z1,hz9⟩:∃z:Rat,((1:Int):Rat)=z:=⟨_,rfl⟩
 have HO1:∀w':World,Calls Tryz.prog 47 #[.int .i64 1] w' (LstQ z1 w'):=fun w'=>hz9▸e6_ 1 w' (by decide)
 have HZ0:Hid (z1=y ^ 0):=hd_ (by rw[←hz9,Rat.pow_zero];rfl)
 obtain⟨ct,hct⟩:∃ct:Int,(n:Int) - ((e+1:Nat):Int)+1=ct:=⟨_,rfl⟩
 obtain⟨N8,hN8⟩:∃N8:Nat,N8=ct.toNat:=⟨_,rfl⟩
 have hN8n:N8≤n+1:=by omega
 have hct':(n:Int) - ((e:Int)+1)+1=ct:=by omega
 clear h k hXq hYq hFL hIX hIY hY h0 hy hy0 hyl hyl9 hK9 hK8 hz9 hl1 hl2 hS8 hS9
 go_enter Tryz.func141,Tryz.ntmps141
 go_wp2_with fail
 refine (HO1 _).mono ?_
 rintro ed w1 ⟨a1,n1,c1,b1,m1,d1,rfl,h1,g1,bw⟩
 unfold frV
 have ba:=aa_ w1 (.cells #[.bool (zneg z1.num),.slice a1 n1 c1,.slice b1 m1 d1] 44)
 have S0:=hd_ (ai_ w1 #[.bool (zneg z1.num),.slice a1 n1 c1,.slice b1 m1 d1] 44)
 have SA:=h1.l_ ba
 have SD:=g1.l_ ba
 have HB0:=hd_ (ab_ bw ba)
 have hsz1:w.heap.size≤w1.heap.size:=bw.size
 clear bw ba h1 g1 HO1
 go_wp2
 go_loopw [16] (fun iv wr=>∃(j:Nat) (f:Rat) (a1:OA_) (n1 c1:Nat) (b1:OA_) (m1 d1:Nat),j≤N8∧iv=.int .i64 (j:Int)∧Hid (f=y ^ j)∧Hid (wr.heap[w1.heap.size]? = some (.cells #[.bool (zneg f.num),.slice a1 n1 c1,.slice b1 m1 d1] 44 (0,0)))∧Hid (Wd wr a1 n1 c1 (dg f.num.natAbs))∧Hid (Wd wr b1 m1 d1 (dg f.den))∧Hid (Below w.heap.size w wr)) (fun iv _=>N8 - (intOf iv).toNat)
 case atStart=>exact⟨0,z1,a1,n1,c1,b1,m1,d1,by omega,rfl,HZ0,S0,SA,SD,HB0⟩
 case round=>
  clear S0 SA SD HB0 HZ0
  obtain⟨j,f,a1,n1,c1,b1,m1,d1,hj,rfl,HE,S0,SA,SD,HB⟩:=hrel
  have hfl:=HFL.out j (by omega)
  have hfl8:=HF2.out j (by omega)
  have hfn:=HFN.out j
  rw[←HE.out] at hfl hfl8 hfn
  have ln1:n1≤1900000000:=by rw[←SA.out.len];exact Nat.le_trans (a5_ _) hfl
  have lm1:m1≤1900000000:=by rw[←SD.out.len];exact Nat.le_trans (a4_ _) hfl
  by_cases hlt:(j:Int) < ct
  ·obtain⟨bb,off,rfl,a3,n3,c3,b3,m3,d3,he,hA,hD⟩:=HYR.out.at (j:=e) (by omega)
   rw[HY9.out] at he hA hD
   have ln3:n3≤1900000000:=by rw[←hA.len];exact Nat.le_trans (a5_ _) HYL.out
   have lm3:m3≤1900000000:=by rw[←hD.len];exact Nat.le_trans (a4_ _) HYL.out
   obtain⟨fz,hf2⟩:∃z,f * y=z:=⟨_,rfl⟩
   have HE2:Hid (fz=y ^ (j+1)):=hd_ (by rw[←hf2,Rat.pow_succ,HE.out])
   have E2:=hd_ hf2
   have HEE:=hd_ he
   have QA:=hd_ hA
   have QD:=hd_ hD
   have hei:(e:Int) < (e:Int)+1:=by omega
   have he0:(0:Int)≤(e:Int):=by omega
   have hee:((e+1:Nat):Int) - 1=(e:Int):=by omega
   have hwe:IntKind.i64.wrap (e:Int)=(e:Int):=by rw[IntKind.wrap_i64];omega
   clear he hA hD hf2 HE hfl hfl8 hfn
   obtain⟨e0,e1,e2⟩:=an_ HEE.out HB.out;obtain⟨x0,x1,x2⟩:=ao_ S0.out
   go_wp2
   have b0:Below wr.heap.size wr wr.drew:=(Below.refl _ _).drew
   replace HB:=bt_ HB b0
   replace S0:=bl_ S0 b0
   replace SA:=SA.l_ b0
   replace SD:=SD.l_ b0
   clear e0 e1 e2 x0 x1 x2 b0
   obtain⟨e0,e1,e2⟩:=an_ HEE.out HB.out;obtain⟨x0,x1,x2⟩:=ao_ S0.out
   go_region_law (first
    | (go_simp;go_at_call 43;refine (fracSaid.mul _ _ f y _ (Fr.right SA.out SD.out (by omega) (by omega)) (Fr.right (QA.out.later HB.out) (QD.out.later HB.out) (by omega) (by omega))).mono ?_;rintro ed w4 ⟨a4,n4,c4,b4,m4,d4,rfl,h4,g4,bw⟩;rw[E2.out] at h4 g4 ⊢;clear e0 e1 e2 x0 x1 x2;replace HB:=bt_ HB bw;replace S0:=bl_ S0 bw;have A4:=hd_ h4;have D4:=hd_ g4;clear bw h4 g4 SA SD;unfold frV;obtain⟨x0,x1,x2⟩:=ao_ S0.out;have f0:=ae_ S0.out 0;have f1:=ae_ S0.out 1;have f2:=ae_ S0.out 2))
   all_goals (
    have S9:=hd_ (be_ S0.out (.bool (zneg fz.num)) (.slice a4 n4 c4) (.slice b4 m4 d4))
    have SA9:=hd_ (A4.out.stored3 S0.out (zneg fz.num) a4 n4 c4 (.slice b4 m4 d4))
    have SD9:=hd_ (D4.out.stored3 S0.out (zneg fz.num) a4 n4 c4 (.slice b4 m4 d4))
    have B9:=hd_ (as_ HB.out hsz1 (.bool (zneg fz.num)) (.slice a4 n4 c4) (.slice b4 m4 d4))
    clear S0 HB A4 D4
    go_wp2
    go_roundw
    case rel=>exact⟨j+1,_,a4,n4,c4,b4,m4,d4,by omega,by go_num,HE2,S9,SA9,SD9,B9⟩
    case measure=>simp[intOf];omega)
  ·obtain⟨x0,x1,x2⟩:=ao_ S0.out
   have HC1:=hd_ (HSC wr (frV (zneg f.num) a1 n1 c1 b1 m1 d1) f (Fr.right SA.out SD.out (by omega) (by omega)) (HX.out.later HB.out))
   have HD1:=hd_ (fun (w':World) (a':OA_) (n' c':Nat)=>HDV w' a' n' c' f hfn hfl8)
   have HFZ:=hd_ hfn
   unfold frV at HC1
   clear hfl hfl8 hfn HSC HDV SA SD HE
   go_wp2_with fail
   refine HC1.out.mono ?_
   rintro ed w5 ⟨a5,n5,c5,rfl,h5,bw⟩
   replace HB:=bt_ HB bw
   have R5:=hd_ h5
   clear bw h5 HC1 x0 x1 x2
   go_wp2_with fail
   refine (HD1.out _ a5 n5 c5 R5.out (HYR.out.later HB.out)).mono ?_
   rintro ed w6 ⟨a6,n6,c6,a7,n7,c7,q,r,rfl,h7,g2,g3,g4,bw⟩
   replace HB:=bt_ HB bw
   have R7:=hd_ h7
   have G2:=hd_ g2
   have G3:=hd_ g3
   have G4:=hd_ g4
   clear bw h7 g2 g3 g4 HD1 R5
   go_wp2
   go_ret
   exact⟨a7,n7,c7,f,q,r,rfl,R7.out,HFZ.out,G2.out,G3.out,G4.out,HB.out⟩
structure GcdT (A B X Y:LR_) (S:Nat):Prop where
 st:GcdP A B X Y
 xi:Ints X (pw S)
 yi:Ints Y (pw S)
 xr:ah_ X=X
 yr:ah_ Y=Y
theorem gh_{l:Rat}(hl:l≠0){R:List Rat}(h:ah_ R=R):ah_ (ag_ l R)=ag_ l R:=ku_ (peq.refl _) (by rw[bm_ hl,a0_ h,a9_])
theorem GcdT.over{A B X:List Rat}{S:Nat}{c:Rat}(h:GcdT A B X [] S)(h0:0 < X.length)(hc:c=1 / X.getD (X.length - 1) 0) :
 isGcd A B (ag_ c X)∧ah_ (ag_ c X)=ag_ c X∧qlen c≤S+2∧(∀q∈ag_ c X,qlen q≤S+2)∧∃z:Int,z≠0∧z.natAbs≤pw (S+2)∧Ints (ag_ (z:Rat) (ag_ c X)) (pw (S+2)):=by
 have ht:=gf_ h.xr h0
 have hcx:c * X.getD (X.length - 1) 0=1:=by rw[hc];exact Rat.div_mul_cancel ht
 have hc0:c≠0:=fun e=>by rw[e,Rat.zero_mul] at hcx;exact absurd hcx (by decide)
 obtain⟨w,w1,w2⟩:=h.xi (X.length - 1)
 have hw:X.getD (X.length - 1) 0=(w:Rat):=w1
 have w0:w≠0:=fun e=>ht (by rw[hw,e];rfl)
 rw[hw] at hcx hc
 have hmono:pw S≤pw (S+2):=ch_ (by omega)
 refine ⟨⟨(h.st.way _ (common.none X)).scale hc0,fun n hn=>?_⟩,gh_ hc0 h.xr,?_,co_ fun i=>?_,w,w0,Nat.le_trans w2 hmono,fun i=>?_⟩
 ·have h1:plen (ag_ c X)=X.length:=by rw[bm_ hc0,a0_ h.xr]
  have h2:n=X.length - 1:=by omega
  rw[aj_,h2,w1];exact hcx
 ·rw[hc]
  exact de_ (z:=1) (t:=S) (by have:=fi_ S;omega) w2
 ·obtain⟨u,u1,u2⟩:=h.xi i
  have e:c * (u:Rat)=(u:Rat) / (w:Rat):=by rw[hc,Rat.div_def,Rat.div_def];grind
  rw[aj_,u1,e]
  exact de_ u2 w2
 ·obtain⟨u,u1,u2⟩:=h.xi i
  refine ⟨u,?_,Nat.le_trans u2 hmono⟩
  rw[aj_,aj_,u1]
  have e:(w:Rat) * (c * (u:Rat))=(c * (w:Rat)) * (u:Rat):=by grind
  rw[e,hcx,Rat.one_mul]
theorem GcdT.none{A B:List Rat}{S:Nat}(h:GcdT A B [] [] S):isGcd A B []:=⟨h.st.way _ (common.none _),fun n hn=>by rw[ia_] at hn;omega⟩
theorem GcdT.start{A B X Y:List Rat}{g s S:Nat}{c d:Rat}(hg:0 < g)(hA:Ints (ag_ ((g:Nat):Rat) A) (pw s))(hB:Ints (ag_ ((g:Nat):Rat) B) (pw s))(hS:s≤S)(hc:c≠0)(hd:d≠0)(hX:X=ag_ c (ah_ A))(hY:Y=ag_ d (ah_ B))(pX:plen A≠0→Prim X)(pY:plen B≠0→Prim Y):GcdT A B X Y S:=by
 have hg0:((g:Nat):Rat)≠0:=fun e=>by have h9:g=0:=Rat.natCast_inj.1 (e.trans rfl);omega
 have hZ:∀{C Z:List Rat} {l:Rat},Ints (ag_ ((g:Nat):Rat) C) (pw s)→l≠0→Z=ag_ l (ah_ C)→(plen C≠0→Prim Z)→Ints Z (pw S):=fun {C Z l} hC hl hZ pZ=>by
  by_cases h0:plen C=0
  ·intro i
   refine ⟨0,?_,Nat.zero_le _⟩
   rw[hZ,aj_,au_,plen_zero.1 h0 i];grind
  ·exact ((pZ h0).small (by rw[hZ];exact bu_ l (au_ C)) hl hg0 hC).mono (ch_ hS)
 exact⟨GcdP.start hc hd (by rw[hX];exact bu_ c (au_ A)) (by rw[hY];exact bu_ d (au_ B)),hZ hA hc hX pX,hZ hB hd hY pY,by rw[hX];exact gh_ hc (a7_ A),by rw[hY];exact gh_ hd (a7_ B)⟩
theorem GcdT.step{A B X Y Z q r:List Rat}{g s S:Nat}{f l:Rat}(h:GcdT A B X Y S)(hg:0 < g)(hA:Ints (ag_ ((g:Nat):Rat) A) (pw s))(hB:Ints (ag_ ((g:Nat):Rat) B) (pw s))(hS:(s+1) * (plen A+plen B+1)=S)(hn:2 * (plen A+plen B)+1≤4294967296)
 (hf:f≠0) (hd:isDiv (ag_ f X) Y q r) (hr:ah_ r=r) (hl:l≠0) (hZ:Z=ag_ l r) (pZ:plen r≠0→Prim Z):GcdT A B Y Z S:=by
 have hg0:((g:Nat):Rat)≠0:=fun e=>by have h9:g=0:=Rat.natCast_inj.1 (e.trans rfl);omega
 have hst:=h.st.step hf hl hd (by rw[hZ];exact peq.refl _:peq Z (ag_ l r))
 refine ⟨hst,h.yi,?_,h.yr,by rw[hZ];exact gh_ hl hr⟩
 by_cases h0:plen r=0
 ·intro i
  refine ⟨0,?_,Nat.zero_le _⟩
  rw[hZ,aj_,plen_zero.1 h0 i];grind
 ·obtain⟨k,hk,hI⟩:=hst.small hg0 hA hB hn
  rw[hS] at hI
  exact (pZ h0).small (c:=1) (fun i=>by rw[aj_,Rat.one_mul]) (by decide) hk hI
theorem GcdT.rest{A B X Y q r:List Rat}{g s S T:Nat}{f:Rat}(h:GcdT A B X Y S)(hg:0 < g)(hA:Ints (ag_ ((g:Nat):Rat) A) (pw s))(hB:Ints (ag_ ((g:Nat):Rat) B) (pw s))(hS:(s+1) * (plen A+plen B+1)=S)(hn:2 * (plen A+plen B)+1≤4294967296)
 (hf:f≠0) (hd:isDiv (ag_ f X) Y q r) (hr:ah_ r=r) (hq:∀x∈r,qlen x≤T) (hT:1≤T):∃k:Rat,k≠0∧Ints (ag_ k r) (pw S)∧qlen (1 / k)≤T+S+3:=by
 have hg0:((g:Nat):Rat)≠0:=fun e=>by have h9:g=0:=Rat.natCast_inj.1 (e.trans rfl);omega
 have hst:=h.st.step (r':=r) hf (e:=1) (by decide) hd (fun i=>by rw[aj_,Rat.one_mul])
 obtain⟨k,hk,hI⟩:=hst.small hg0 hA hB hn
 rw[hS] at hI
 by_cases h0:r.length=0
 ·have hr0:r=[]:=List.eq_nil_of_length_eq_zero h0
  refine ⟨1,by decide,fun i=>⟨0,by rw[aj_,hr0,d8_,Rat.mul_zero];rfl,Nat.zero_le _⟩,?_⟩
  have h1:qlen (1 / 1)≤2:=by
   rw[pe_ (by decide)]
   exact b4_ (z:=1) (by decide)
  omega
 ·exact⟨k,hk,hI,back_len (gf_ hr (by omega)) hk hI (cv_ hT hq _)⟩
theorem r2_(a:OA_)(n c:Nat)(L:List Fx)(b:OA_)(m d:Nat)(M:List Fx)(g s S h9:Nat)(w:World)(h:Fxs w a n c L)(k:Fxs w b m d M)(hn:n≤h9)(hm:m≤h9)(hh:h9≤300)(ht:thin 1900000000 L)(hu:thin 1900000000 M)(hg:0 < g)(hgs:g≤pw s)
 (hA:Ints (ag_ ((g:Nat):Rat) (fqs L)) (pw s)) (hB:Ints (ag_ ((g:Nat):Rat) (fqs M)) (pw s)) (hS:(s+1) * (plen (fqs L)+plen (fqs M)+1)=S) (hb:(2 * h9+20) * (S+3)≤1900000000):Calls Tryz.prog 106 #[.slice a n c,.slice b m d] w (p3_ (fqs L) (fqs M) (S+2) w):=by
 have hbd:=h.bound
 have hbd2:=k.bound
 have hk1:=b9_ h
 have hk2:=b9_ k
 have hsS:s≤S:=by rw[←hS,Nat.mul_add];omega
 have hbb:(2 * h9+20) * (S+3)=(2 * h9+8) * (S+3)+12 * (S+3):=by rw[←Nat.add_mul]
 have hnn:2 * (plen (fqs L)+plen (fqs M))+1≤4294967296:=by omega
 have hg0:((g:Nat):Rat)≠0:=fun e=>by have h9:g=0:=Rat.natCast_inj.1 (e.trans rfl);omega
 have hgl:qlen (1 / ((g:Nat):Rat))≤s+2:=dp_ (z:=1) (t:=s) (by have:=fi_ s;omega) hgs
 have HP1:∀w':World,Below w.heap.size w w'→Calls Tryz.prog 140 #[.slice a n c] w' (fun e w''=>∃(a':OA_) (n' c':Nat) (Y:LR_),e=.returned (.slice a' n' c')∧Rw w'' a' n' c' Y∧Y.length=plen (fqs L)∧(∃l:Rat,l≠0∧Y=ag_ l (ah_ (fqs L)))∧(plen (fqs L)≠0→Prim Y)∧Below w'.heap.size w' w''):=fun w' hb=>j8_ a n c L _ s w' (h.later hb) (by omega) (ht.mono (by decide)) hg0 (hA.congr (bu_ _ (au_ _).symm)) (by omega)
 have HP2:∀w':World,Below w.heap.size w w'→Calls Tryz.prog 140 #[.slice b m d] w' (fun e w''=>∃(a':OA_) (n' c':Nat) (Y:LR_),e=.returned (.slice a' n' c')∧Rw w'' a' n' c' Y∧Y.length=plen (fqs M)∧(∃l:Rat,l≠0∧Y=ag_ l (ah_ (fqs M)))∧(plen (fqs M)≠0→Prim Y)∧Below w'.heap.size w' w''):=fun w' hb=>j8_ b m d M _ s w' (k.later hb) (by omega) (hu.mono (by decide)) hg0 (hB.congr (bu_ _ (au_ _).symm)) (by omega)
 have hl1:plen (fqs L)≤h9:=by omega
 have hl2:plen (fqs M)≤h9:=by omega
 have HG:=hd_ (show 0 < g∧Ints (ag_ ((g:Nat):Rat) (fqs L)) (pw s)∧Ints (ag_ ((g:Nat):Rat) (fqs M)) (pw s)∧(s+1) * (plen (fqs L)+plen (fqs M)+1)=S∧s≤S∧2 * (plen (fqs L)+plen (fqs M))+1≤4294967296 from ⟨hg,hA,hB,hS,hsS,hnn⟩)
 have HL1:=hd_ hl1
 have HL2:=hd_ hl2
 clear h k ht hu hg hgs hA hB hS hgl hg0 hnn hk1 hk2 hl1 hl2
 generalize fqs L=A at *
 generalize fqs M=B at *
 obtain⟨T9,hT9⟩:∃T9,(2 * h9+8) * (S+3)=T9:=⟨_,rfl⟩
 have hTS:T9+12 * (S+3)≤1900000000:=by rw[hT9] at hbb;omega
 have hT1:1≤T9:=by rw[←hT9];exact Nat.mul_pos (by omega) (by omega)
 have HT9:Hid ((2 * h9+8) * (S+3)=T9):=hd_ hT9
 have HRE:∀(w':World) (a1:OA_) (n1 c1:Nat) (X:LR_) (a2:OA_) (n2 c2:Nat) (Y:LR_),n1≤h9→n2≤h9→Rw w' a1 n1 c1 X→Rw w' a2 n2 c2 Y→GcdT A B X Y S→0 < Y.length→Calls Tryz.prog 141 #[.slice a1 n1 c1,.slice a2 n2 c2] w' (fun e w''=>∃(a':OA_) (n' c':Nat) (f:Rat) (q r:LR_),e=.returned (.slice a' n' c')∧Rw w'' a' n' c' r∧f≠0∧isDiv (ag_ f X) Y q r∧ah_ r=r∧(∀x∈r,qlen x≤T9)∧Below w'.heap.size w' w''):=fun w' a1 n1 c1 X a2 n2 c2 Y k1 k2 k3 k4 k5 k6=>by
  have h8:=poly_rest a1 n1 c1 X a2 n2 c2 Y S h9 w' k3 k4 k1 k2 hh k5.yr k6 k5.xi k5.yi (by rw[HT9.out];omega)
  rwa [HT9.out] at h8
 have HPL:∀(w':World) (a1:OA_) (n1 c1:Nat) (r:LR_) (k:Rat),n1≤300→Rw w' a1 n1 c1 r→ah_ r=r→(∀x∈r,qlen x≤T9)→k≠0→Ints (ag_ k r) (pw S)→qlen (1 / k)≤T9+S+3→Calls Tryz.prog 140 #[.slice a1 n1 c1] w' (fun e w''=>∃(a':OA_) (n' c':Nat) (Y:LR_),e=.returned (.slice a' n' c')∧Rw w'' a' n' c' Y∧Y.length=plen r∧(∃l:Rat,l≠0∧Y=ag_ l r)∧(plen r≠0→Prim Y)∧Below w'.heap.size w' w''):=fun w' a1 n1 c1 r k k1 k2 k3 k4 k5 k6 k7=>by
  obtain⟨L1,l1,l2,l3⟩:=k2.thin k4
  have h8:=j8_ a1 n1 c1 L1 k S w' l1 k1 (l3.mono (by omega)) k5 (by rw[l2,k3];exact k6) (by omega)
  rwa [l2,k3] at h8
 have HB0:=hd_ (Below.refl w.heap.size w)
 clear hbb hb
 go_enter Tryz.func106,Tryz.ntmps106
 go_wp2_with fail
 refine (HP1 _ HB0.out).mono ?_
 rintro ed w1 ⟨a1,n1,c1,X0,rfl,h1,x1,⟨l1,x2,x3⟩,x4,bw⟩
 replace HB0:=bt_ HB0 bw
 have R1:=hd_ h1
 have hn1:n1≤h9:=by rw[←h1.len,x1];exact HL1.out
 clear bw h1 HP1
 go_wp2_with fail
 refine (HP2 _ HB0.out).mono ?_
 rintro ed w2 ⟨a2,n2,c2,Y0,rfl,h2,y1,⟨l2,y2,y3⟩,y4,bw⟩
 replace HB0:=bt_ HB0 bw
 replace R1:=R1.l_ bw
 have R2:=hd_ h2
 have hn2:n2≤h9:=by rw[←h2.len,y1];exact HL2.out
 have ST:=hd_ (GcdT.start (A:=A) (B:=B) HG.out.1 HG.out.2.1 HG.out.2.2.1 HG.out.2.2.2.2.1 x2 y2 x3 y3 x4 y4)
 clear bw h2 HP2 x1 x2 x3 x4 y1 y2 y3 y4 HL1 HL2
 go_wp2
 go_loopw [0,1] (fun av bv wr=>∃(a1:OA_) (n1 c1:Nat) (X:LR_) (a2:OA_) (n2 c2:Nat) (Y:LR_),av=.slice a1 n1 c1∧bv=.slice a2 n2 c2∧n1≤h9∧n2≤h9∧Hid (Rw wr a1 n1 c1 X)∧Hid (Rw wr a2 n2 c2 Y)∧Hid (GcdT A B X Y S)∧Hid (Below w.heap.size w wr)) (fun _ bv _=>k8_ bv)
 case atStart=>exact⟨a1,n1,c1,X0,a2,n2,c2,Y0,rfl,rfl,hn1,hn2,R1,R2,ST,HB0⟩
 case round=>
  clear R1 R2 ST HB0 hn1 hn2
  obtain⟨a1,n1,c1,X,a2,n2,c2,Y,rfl,rfl,hn1,hn2,R1,R2,ST,HB⟩:=hrel
  have hbd3:=R1.out.bound
  have hbd4:=R2.out.bound
  by_cases hlt:0 < n2
  ·have hlti:(0:Int) < (n2:Int):=by omega
   have HY2:Hid (Y.length=n2):=hd_ R2.out.len
   have HC1:=hd_ (HRE wr a1 n1 c1 X a2 n2 c2 Y hn1 hn2 R1.out R2.out ST.out (by rw[HY2.out];exact hlt))
   clear HRE R1
   go_wp2_with fail
   refine HC1.out.mono ?_
   rintro ed w3 ⟨a3,n3,c3,f,q,r,rfl,h3,g1,g2,g3,g4,bw⟩
   replace HB:=bt_ HB bw
   replace R2:=R2.l_ bw
   obtain⟨kk,k1,k2,k3⟩:=ST.out.rest HG.out.1 HG.out.2.1 HG.out.2.2.1 HG.out.2.2.2.1 HG.out.2.2.2.2.2 g1 g2 g3 g4 (by omega)
   have hn3:n3 < n2:=by
    have h8:=g2.2
    rw[a0_ g3,a0_ ST.out.yr,h3.len,HY2.out] at h8
    exact h8
   have hr3:plen r=n3:=by rw[a0_ g3,h3.len]
   have HC2:=hd_ (HPL w3 a3 n3 c3 r kk (by omega) h3 g3 g4 k1 k2 k3)
   have G:=hd_ (show f≠0∧isDiv (ag_ f X) Y q r∧ah_ r=r from ⟨g1,g2,g3⟩)
   have HR3:=hd_ hr3
   clear bw h3 g1 g2 g3 g4 k1 k2 k3 HC1 HPL hr3
   go_wp2_with fail
   refine HC2.out.mono ?_
   rintro ed w4 ⟨a4,n4,c4,Z,rfl,h4,z1,⟨l,z2,z3⟩,z4,bw⟩
   replace HB:=bt_ HB bw
   replace R2:=R2.l_ bw
   have R4:=hd_ h4
   have hn4:n4 < n2:=by rw[←h4.len,z1,HR3.out];exact hn3
   have ST2:=hd_ (ST.out.step HG.out.1 HG.out.2.1 HG.out.2.2.1 HG.out.2.2.2.1 HG.out.2.2.2.2.2 G.out.1 G.out.2.1 G.out.2.2 z2 z3 z4)
   clear bw h4 z1 z2 z3 z4 HC2 ST G
   go_wp2
   go_roundw
   case rel=>exact⟨a2,n2,c2,Y,a4,n4,c4,Z,rfl,rfl,hn2,by omega,R2,R4,ST2,HB⟩
   case measure=>simp[k8_];omega
  ·obtain rfl:n2=0:=by omega
   have hYe:Y=[]:=List.eq_nil_of_length_eq_zero R2.out.len
   subst hYe
   by_cases hz:n1=0
   ·subst hz
    have hXe:X=[]:=List.eq_nil_of_length_eq_zero R1.out.len
    subst hXe
    have HE:=hd_ ST.out.none
    clear ST R1 R2 HRE HPL HG
    go_wp2
    go_ret
    exact⟨none,0,0,[],rfl,Rw.nil _,HE.out,rfl,fun x hx=>by simp at hx,⟨1,by decide,by have:=fi_ (S+2);omega,fun i=>⟨0,rfl,Nat.zero_le _⟩⟩,HB.out⟩
   ·obtain⟨e,rfl⟩:∃e,n1=e+1:=⟨n1 - 1,by omega⟩
    have hXl:X.length=e+1:=R1.out.len
    obtain⟨per,hper⟩:∃p,1 / X.getD (X.length - 1) 0=p:=⟨_,rfl⟩
    obtain⟨o1,o2,o3,o4,o5⟩:=ST.out.over (by omega) hper.symm
    have htop:=gf_ ST.out.xr (by omega)
    rw[hXl,show e+1 - 1=e by omega] at hper htop
    have hXq:=px_ ST.out.xi
    have htl:=hXq _ (fq_ (L:=X) (k:=e) (by omega))
    obtain⟨bt,offt,hbt,at_,nt,ct,bu,mu,du,ht9,htA,htD⟩:=R1.out.at (j:=e) (by omega)
    subst hbt
    obtain⟨tp,htp⟩:∃t,X.getD e 0=t:=⟨_,rfl⟩
    rw[htp] at hper htop htl ht9 htA htD
    have lnt:nt≤2000000000:=by rw[←htA.len];exact Nat.le_trans (a5_ _) (by omega)
    have lmt:mu≤2000000000:=by rw[←htD.len];exact Nat.le_trans (a4_ _) (by omega)
    obtain⟨z1,hz9⟩:∃z:Rat,((1:Int):Rat)=z:=⟨_,rfl⟩
    have HO1:∀w':World,Calls Tryz.prog 47 #[.int .i64 1] w' (LstQ z1 w'):=fun w'=>hz9▸e6_ 1 w' (by decide)
    have HZL:Hid (qlen z1≤2):=hd_ (hz9▸b4_ (by decide))
    have HZ1:Hid (z1=1):=hd_ (by rw[←hz9];rfl)
    have HQ1:∀(w':World) (a4:OA_) (n4 c4:Nat) (b4:OA_) (m4 d4:Nat),Wd w' a4 n4 c4 (dg z1.num.natAbs)→Wd w' b4 m4 d4 (dg z1.den)→Below wr.heap.size wr w'→Calls Tryz.prog 63 #[.agg #[.bool (zneg z1.num),.slice a4 n4 c4,.slice b4 m4 d4],.agg #[.bool (zneg tp.num),.slice at_ nt ct,.slice bu mu du]] w' (en_ per (.bool true) w'):=fun w' a4 n4 c4 b4 m4 d4 k1 k2 k3=>by
     have h8:=fracSaid.quo (frV (zneg z1.num) a4 n4 c4 b4 m4 d4) (frV (zneg tp.num) at_ nt ct bu mu du) z1 tp w' (Fr.right k1 k2 (by rw[←k1.len];exact Nat.le_trans (a5_ _) (Nat.le_trans HZL.out (by decide))) (by rw[←k2.len];exact Nat.le_trans (a4_ _) (Nat.le_trans HZL.out (by decide)))) (Fr.right (htA.later k3) (htD.later k3) (by omega) (by omega))
     rw[decide_eq_true htop,HZ1.out,hper] at h8
     rw[HZ1.out]
     exact h8
    have HSC:∀(w':World) (v:Value),Fr w' v per 2097152000→Rw w' (some ⟨bt,offt,none⟩) (e+1) c1 X→Calls Tryz.prog 110 #[v,.slice (some ⟨bt,offt,none⟩) (e+1) c1] w' (b5_ (ag_ per X) w'):=fun w' v k1 k2=>by
     obtain⟨L1,l1,l2,l3⟩:=k2.thin hXq
     have h8:=h2_ v per _ (e+1) c1 L1 w' k1 l1 (by omega) (l3.mono (by omega))
     rwa [l2] at h8
    have SU:=hd_ ht9
    have HPL9:Hid (qlen per≤1900000000):=hd_ (by omega)
    have HOV:=hd_ (show isGcd A B (ag_ per X)∧ah_ (ag_ per X)=ag_ per X∧(∀q∈ag_ per X,qlen q≤S+2)∧∃z:Int,z≠0∧z.natAbs≤pw (S+2)∧Ints (ag_ (z:Rat) (ag_ per X)) (pw (S+2)) from ⟨o1,o2,o4,o5⟩)
    have hz0:((e:Int)+1 == 0)=false:=by simp;omega
    have hzz:((e+1:Nat):Int) - 1=(e:Int):=by omega
    have hze:(e:Int) < (e:Int)+1:=by omega
    have hz1:(0:Int)≤(e:Int):=by omega
    have hwe:IntKind.i64.wrap (e:Int)=(e:Int):=by rw[IntKind.wrap_i64];omega
    clear o1 o2 o3 o4 o5 htop hper htp ht9 hXq htl hXl hz9 ST R2 HRE HPL HG hz
    go_upto_region 6 with fail
    go_cut [5,6] from 22 to 32 (fun cv ov wx=>∃(g:Nat) (a5:OA_) (n5 c5:Nat) (b5:OA_) (m5 d5:Nat),cv=.pointer (some ⟨g,0,none⟩)∧ov=.bool true∧Hid (wx.heap[g]? = some (.cells #[.bool (zneg per.num),.slice a5 n5 c5,.slice b5 m5 d5] 44 (0,0)))∧Hid (Wd wx a5 n5 c5 (dg per.num.natAbs))∧Hid (Wd wx b5 m5 d5 (dg per.den))∧Hid (Below wr.heap.size wr wx))
    case first=>
     obtain⟨s0,s1,s2⟩:=an_ SU.out (Below.refl wr.heap.size wr)
     go_wp2
     clear s0 s1 s2
     have G1:Below wr.heap.size wr wr.drew:=(Below.refl _ _).drew
     have G2:∀o,Below wr.heap.size wr (wr.alloc o).drew:=fun o=>(aa_ wr o).drew
     have qS:=an_ SU.out G1
     have qA:=fun o=>an_ SU.out (G2 o)
     go_region_held3 (fun w'=>w'.cell? ⟨bt,offt+e * 3,none⟩=some (.bool (zneg tp.num))∧w'.cell? ⟨bt,offt+e * 3+1,none⟩=some (.slice at_ nt ct)∧w'.cell? ⟨bt,offt+e * 3+2,none⟩=some (.slice bu mu du)) (first | with_reducible exact qS | with_reducible exact qA _ | with_reducible exact qC)
      (first
      | (go_at_call 47;refine (HO1 _).mono ?_;rintro ed w4 ⟨a4,n4,c4,b4,m4,d4,rfl,h4,g4,bw⟩;unfold frV;(first
        | (have bw1:Below wr.drew.heap.size wr.drew w4:=(by with_reducible exact bw);have BB:=hd_ (ab_ G1 bw1);have A4:=hd_ h4;have D4:=hd_ g4;have M1:=True.intro;clear h4 g4 bw bw1 qS qA;have qS:=an_ SU.out BB.out;have qA:=fun o=>an_ SU.out (ab_ BB.out (aa_ w4 o)))
        | (have bw1:Below (wr.alloc (.cells #[.bool false,.slice none 0 0,.slice none 0 0] 44)).drew.heap.size (wr.alloc (.cells #[.bool false,.slice none 0 0,.slice none 0 0] 44)).drew w4:=(by with_reducible exact bw);have BB:=hd_ (ab_ (G2 _) bw1);have Z4:=hd_ (ac_ (w:=(wr.alloc (.cells #[.bool false,.slice none 0 0,.slice none 0 0] 44)).drew) (ai_ wr #[.bool false,.slice none 0 0,.slice none 0 0] 44) bw1);have A4:=hd_ h4;have D4:=hd_ g4;clear h4 g4 bw bw1 qS qA;have qS:=an_ SU.out BB.out;have qA:=fun o=>an_ SU.out (ab_ BB.out (aa_ w4 o)))))
      | (go_at_call 63;(first
        | (have Y4:=Z4;(with_reducible refine (HQ1 w4 _ _ _ _ _ _ A4.out D4.out BB.out).mono ?_);rintro ed w5 ⟨a5,n5,c5,b5,m5,d5,rfl,h5,g5,bw⟩;have BC:=hd_ (ab_ BB.out bw);have Z5:=hd_ (ac_ Z4.out bw);have hzb:wr.heap.size≤wr.heap.size:=Nat.le_refl _;have A5:=hd_ h5;have D5:=hd_ g5;clear h5 g5 bw Y4 qS qA;unfold frV;obtain⟨z0,z1,z2⟩:=ao_ Z5.out;have f0:=ae_ Z5.out 0;have f1:=ae_ Z5.out 1;have f2:=ae_ Z5.out 2;have qS:=an_ SU.out BC.out;have qA:=fun o=>an_ SU.out (ab_ BC.out (aa_ w5 o));have qC:=an_ SU.out (as_ BC.out hzb (.bool (zneg per.num)) (.slice a5 n5 c5) (.slice b5 m5 d5)))
        | ((with_reducible refine (HQ1 w4 _ _ _ _ _ _ A4.out D4.out BB.out).mono ?_);rintro ed w5 ⟨a5,n5,c5,b5,m5,d5,rfl,h5,g5,bw⟩;have BC:=hd_ (ab_ BB.out bw);have A5:=hd_ h5;have D5:=hd_ g5;clear h5 g5 bw qS qA;unfold frV;have qS:=an_ SU.out BC.out;have qA:=fun o=>an_ SU.out (ab_ BC.out (aa_ w5 o)))
        | (have ba:=aa_ w4 (.cells #[.bool false,.slice none 0 0,.slice none 0 0] 44);(with_reducible refine (HQ1 (w4.alloc (.cells #[.bool false,.slice none 0 0,.slice none 0 0] 44)) _ _ _ _ _ _ (A4.out.later ba) (D4.out.later ba) (ab_ BB.out ba)).mono ?_);rintro ed w5 ⟨a5,n5,c5,b5,m5,d5,rfl,h5,g5,bw⟩;have BC:=hd_ (ab_ (ab_ BB.out ba) bw);have Z5:=hd_ (ac_ (ai_ w4 #[.bool false,.slice none 0 0,.slice none 0 0] 44) bw);have hzb:wr.heap.size≤w4.heap.size:=BB.out.size;have A5:=hd_ h5;have D5:=hd_ g5;clear h5 g5 bw ba qS qA;unfold frV;obtain⟨z0,z1,z2⟩:=ao_ Z5.out;have f0:=ae_ Z5.out 0;have f1:=ae_ Z5.out 1;have f2:=ae_ Z5.out 2;have qS:=an_ SU.out BC.out;have qA:=fun o=>an_ SU.out (ab_ BC.out (aa_ w5 o));have qC:=an_ SU.out (as_ BC.out hzb (.bool (zneg per.num)) (.slice a5 n5 c5) (.slice b5 m5 d5))))))
     all_goals (
      go_wp2
      go_meet
      (first
        | exact⟨_,a5,n5,c5,b5,m5,d5,rfl,rfl,hd_ (be_ Z5.out (.bool (zneg per.num)) (.slice a5 n5 c5) (.slice b5 m5 d5)),hd_ (A5.out.stored3 Z5.out (zneg per.num) a5 n5 c5 (.slice b5 m5 d5)),hd_ (D5.out.stored3 Z5.out (zneg per.num) a5 n5 c5 (.slice b5 m5 d5)),hd_ (as_ BC.out hzb (.bool (zneg per.num)) (.slice a5 n5 c5) (.slice b5 m5 d5))⟩
        | exact⟨w5.heap.size,a5,n5,c5,b5,m5,d5,rfl,rfl,hd_ (ai_ w5 _ 44),hd_ (A5.out.later (aa_ w5 _)),hd_ (D5.out.later (aa_ w5 _)),hd_ (ab_ BC.out (aa_ w5 _))⟩))
    case rest=>
     obtain⟨g9,a9,n9,c9,b9,m9,d9,rfl,rfl,PB,PA,PD,HBc⟩:=hcut
     have HB9:=hd_ (ab_ HB.out HBc.out)
     obtain⟨x0,x1,x2⟩:=ao_ PB.out
     have HC3:=hd_ (HSC wc (frV (zneg per.num) a9 n9 c9 b9 m9 d9) (Fr.right PA.out PD.out (by rw[←PA.out.len];exact Nat.le_trans (a5_ _) (Nat.le_trans HPL9.out (by decide))) (by rw[←PD.out.len];exact Nat.le_trans (a4_ _) (Nat.le_trans HPL9.out (by decide)))) (R1.out.later HBc.out))
     unfold frV at HC3
     clear PA PD HSC HBc HB SU HQ1 R1
     go_wp2_with fail
     refine HC3.out.mono ?_
     rintro ed w7 ⟨a7,n7,c7,rfl,h7,bw⟩
     have R7:=hd_ h7
     have HB7:=hd_ (ab_ HB9.out bw)
     clear bw h7 HC3 x0 x1 x2
     go_wp2
     go_ret
     exact⟨a7,n7,c7,ag_ per X,rfl,R7.out,HOV.out.1,HOV.out.2.1,HOV.out.2.2.1,HOV.out.2.2.2,HB7.out⟩
theorem oz_(a:OA_)(n c:Nat)(L:List Fx)(b:OA_)(m d:Nat)(M:List Fx)(k9 l9:Rat)(P Z:LR_)(S T:Nat)(w:World)(h:Fxs w a n c L)(k:Fxs w b m d M)(hn:n≤60)(hm:m≤60)(ht:thin 1900000000 L)(hu:thin 1900000000 M)(hP:Ints P (pw S))(hZ:Ints Z (pw S))(hA:peq (fqs L) (ag_ k9 P))(hB:peq (fqs M) (ag_ l9 Z))(hb:4 * (qlen k9+qlen l9+(n+4) * (S+3))≤T)(hT:T≤1900000000)(h0:Hid (plen (fqs M)≠0)):Calls Tryz.prog 107 #[.slice a n c,.slice b m d] w (LstDiv (fqs L) (fqs M) T w):=by
 have hBl:0 < (ah_ (fqs M)).length:=Nat.pos_of_ne_zero h0.out
 obtain⟨z,hz⟩:=DivL.of (a7_ (fqs M)) hBl hZ ((au_ _).trans hB)
 have hKq:∀q∈ah_ (fqs M),qlen q≤qlen l9+S+3:=co_ fun i=>by
  obtain⟨u,u1,u2⟩:=hZ i
  rw[fa_,hB i,aj_,u1]
  have g1:=ci_ l9 (u:Rat)
  have g2:=te_ u2
  omega
 have hmul:(n+1 - (ah_ (fqs M)).length) * (S+1)≤n * (S+3):=Nat.mul_le_mul (by omega) (by omega)
 have hn4:(n+4) * (S+3)=n * (S+3)+4 * (S+3):=Nat.add_mul _ _ _
 have hW:=DivWay.new (A:=fqs L) (K:=qlen l9+S+3) (n:=n) (s:=S) (k:=k9) (T:=T) hz (Nat.le_trans (az_ _) (by rw[aw_,h.len];exact Nat.le_refl _)) hP hA (Nat.le_refl _) (by omega)
 refine (na_ a n c L b m d M _ T _ w h k (by omega) (by omega) (ht.mono (by decide)) (hu.mono (by decide)) hKq h0.out hW (by omega) (by omega)).mono fun e w' h9=>?_
 obtain⟨a1,n1,c1,q,a2,n2,c2,r,g1,g2,g3,g4,g5,g6,⟨Q,g7,g8⟩,g9⟩:=h9
 have hr:=hW.room g8
 refine ⟨a1,n1,c1,q,a2,n2,c2,r,g1,g2,g3,g4.of (peq.refl _) (au_ _) (peq.refl _) (peq.refl _),g5,g6,co_ fun i=>?_,hr.1,g9⟩
 rw[g7 i]
 exact cv_ (by omega) hr.2 i
theorem polySaid:PolySaid where
 norm:=fun a n c L w h hn t=>m2_ a n c L w h hn (t.mono (by decide))
 degree:=fun a n c L w h hn t=>hg_ a n c L w h (by omega) (t.mono (by decide))
 same:=fun a n c L b m d M w h k hn hm t u=>poly_same a n c L b m d M w h k hn hm (t.mono (by decide)) (u.mono (by decide))
 sub:=fun a n c L b m d M w h k hn hm t u=>poly_sub a n c L b m d M w h k hn hm (t.mono (by decide)) u
 mul:=fun a n c L b m d M N K w h k hn hm t u hb=>poly_mul a n c L b m d M N K w h k hn hm t u hb
 scale:=fun v q a n c L w hv h hn t=>n2_ v q a n c L w hv h hn t
 eval:=fun a n c L v q N X w h hv hn t hb=>poly_eval a n c L v q N X w h hv hn t hb
 diff:=fun a n c L w h hn t=>poly_diff a n c L w h hn (t.mono (by decide))
 div_more:=fun a n c L b m d M k9 l9 P Z S T w h k hn hm t u hP hZ hA hB hb hT h0=>oz_ a n c L b m d M k9 l9 P Z S T w h k hn hm t u hP hZ hA hB hb hT h0
 gcd_more:=fun a n c L b m d M g s S h9 w h k hn hm hh t u hg hgs hA hB hS hb=>r2_ a n c L b m d M g s S h9 w h k hn hm hh t u hg hgs hA hB hS hb
theorem fr_wider{w:World}{v:Value}{q:Rat}{N:Nat}(h:Fr w v q N):Fr w v q (N+2):=by
 obtain⟨s,a,n,c,l,b,m,d,k,h1,h2,h3,h4,h5,h6⟩:=h
 exact⟨s,a,n,c,l,b,m,d,k,h1,h2,h3,by omega,by omega,h6⟩
theorem ratfAll(PS:PolySaid)(FS:FracSaid):RatfSaid where
 norm:=fun a n c b m d u v h s w hF hk=>(hn_ PS FS a n c b m d u v h s w hF hk).mono fun _ _ h9=>h9.right hF.rf.isF
 new:=fun a n c U b m d V u v h s w hU hV hf hz hk=>by
  by_cases hV0:plen V=0
  ·obtain⟨rfl,rfl⟩:=hf.zero (.inr hV0)
   rw[show decide (plen V≠0)=false by simp[hV0]]
   exact (mq_ PS FS a n c b m d V w hV (by rw[←hV.len];have:=hz.lv;have:=hk.2.1;omega) hV0).mono fun _ _ h9=>h9.right (Rf.isF hf.1)
  ·rw[decide_eq_true hV0]
   exact (kq_ PS FS a n c U b m d V u v h s w hU hV hf hz hk hV0).mono fun _ _ h9=>h9.right hf.1.isF
 of:=fun x q X w h hk=>(r3_ PS FS x q (X+2) w (fr_wider h) (by have:=l1_ hk;omega) (by omega)).mono fun _ _ h9=>h9.right ((ub_ [q,0]).of (aq_ fun z=>by show q+z * (0+z * 0)=q+z * 0;grind) (peq.refl _))
 line:=fun x q y r X w h k hk=>(q1_ PS FS x q y r X w h k (by have:=l1_ hk;omega)).mono fun _ _ h9=>h9.right (ub_ [q,r])
 zero:=fun a n c b m d u v h s w hF hk=>sm_ PS a n c b m d u v h s w hF (by have:=q0_ hk;omega) (q0_ hk).2
 same:=fun a n c b m d u v h s a' n' c' b' m' d' x y k t w hA hB hk hk2 hb=>ratf_same PS a n c b m d u v h s a' n' c' b' m' d' x y k t w hA hB hk hk2 hb
 quo:=fun a n c b m d u v h s a' n' c' b' m' d' x y k t w hA hB hk=>by
  by_cases hx:x=[]
  ·rw[show decide (x≠[])=false by simp[hx]]
   exact (sr_ PS FS a n c b m d h s a' n' c' b' m' d' x y k t w hB hk hx).mono fun _ _ h9=>h9.right (ic_ (.inr (by rw[hx,am_ (d9_ v)];rfl)))
  ·rw[decide_eq_true hx]
   exact rj_ PS FS a n c b m d u v h s a' n' c' b' m' d' x y k t w hA hB hk hx
 eval_yes:=fun a n c b m d u v h s x q X w hF hx hk hb h0=>by
  obtain⟨U,V,hU,hV,hf,hz,hz2⟩:=hF
  by_cases h1:ar_ q V=0
  ·have h9:=jn_ PS FS a n c b m d u v U V h s x q X w hU hV hf hz hz2 hx hk hb h1
   rwa [decide_eq_true h0] at h9
  ·exact pf_ PS FS a n c b m d u v U V h s x q X w hU hV hf hz hz2 hx hk hb h1
 eval_no:=fun a n c b m d u v h s x q X w hF hx hk hb h0=>by
  obtain⟨U,V,hU,hV,hf,hz,hz2⟩:=hF
  have h1:ar_ q V=0:=Decidable.byContradiction fun h1=>(hf.val h1).1 h0
  have h9:=jn_ PS FS a n c b m d u v U V h s x q X w hU hV hf hz hz2 hx hk hb h1
  rwa [decide_eq_false (by simp[h0]:¬(ar_ q v≠0)),h0,Rat.div_def,show (0:Rat)⁻¹=0 by decide +kernel,Rat.mul_zero] at h9
 diff:=fun a n c b m d u v h s w hF hk=>ratf_diff PS FS a n c b m d u v h s w hF hk
theorem tm_:RatfSaid:=ratfAll polySaid fracSaid
open Go.ChangeShapes Go.WideShapes Go.ChangeAt Go.RowKit Go.Deep
section
variable {H:Type} {enc:TypeId × Value→H} {P:Program} {W:World} {base:Nat}
theorem ok_{t e:TypeId}{f0 f1 f2:Field}{q:TypeId}{n0:Nat}{v:Value}{y:DataW H × List MemPlace}(ht:P.underlying t=some (.slice e))(hs:P.underlying e=some (.struct #[f0,f1,f2]))(hone:oneCellFields P #[f0,f1,f2]=true)(hC:P.cellsOf e=3)
 (hb:P.underlying f0.type=some .bool) (h1:P.underlying f1.type=some (.slice q)) (h2:P.underlying f2.type=some (.slice q)) (hq:P.underlying q=some (.int .u32)) (hcq:P.cellsOf q=1)
 (hf:DataW.trod enc P W 0 (fun _=>true) true n0 t [v]=some y):∃(a:OA_) (n cap:Nat) (ls:List (Bool × List Nat × List Nat)),v=.slice a n cap∧Frs W a n cap ls:=by
 rcases open_slice ht hf with ⟨hcs,_⟩ | ⟨a,len,cap,m,n,D,Pl,hcs,_,hl,hm,hmm,_,hx⟩
 ·simp at hcs
  exact⟨_,_,_,[],hcs,Frs.ofNil W⟩
 ·simp at hcs
  simp only[if_true] at hmm
  obtain⟨o0,k0⟩:=hone_of hone 0 f0 rfl
  obtain⟨o1,k1⟩:=hone_of hone 1 f1 rfl
  obtain⟨o2,k2⟩:=hone_of hone 2 f2 rfl
  have each:∀i,i < cap→∃x:Bool × List Nat × List Nat,∃(a':OA_) (n' c':Nat) (b':OA_) (m' d':Nat),W.cell? (a.add (i * 3))=some (.bool x.1)∧W.cell? (a.add (i * 3+1))=some (.slice a' n' c')∧W.cell? (a.add (i * 3+2))=some (.slice b' m' d')∧Wd W a' n' c' x.2.1∧Wd W b' m' d' x.2.2:=by
   intro i hi
   obtain⟨cs',h3,h4⟩:=hx i (by omega)
   rw[hC] at h3
   obtain⟨_,hlen,hcell⟩:=World.cells?_some h3
   obtain⟨y0,y1,y2,k,_,_,g0,g1,g2⟩:=trod_struct3 hs h4
   match cs',hlen with
   | [v0,v1,v2],_=>
     simp[o0,k0] at g0
     simp[o1,k1] at g1
     simp[o2,k2] at g2
     obtain⟨x,e0,_⟩:=DataW.trod_bool hb g0
     simp at e0
     subst e0
     obtain⟨a1,n1,c1,l1,rfl,w1⟩:=id_ h1 hq hcq g1
     obtain⟨a2,n2,c2,l2,rfl,w2⟩:=id_ h2 hq hcq g2
     have e0:=hcell 0 (by omega)
     have e1:=hcell 1 (by omega)
     have e2:=hcell 2 (by omega)
     rw[Go.Deep.add_add] at e0 e1 e2
     exact⟨(x,l1,l2),a1,n1,c1,a2,n2,c2,by simpa using e0,by simpa using e1,by simpa using e2,w1,w2⟩
  obtain⟨F,hF⟩:=choose_lt each
  refine ⟨_,_,_,(List.range len).map F,hcs,by simp,hl,by unfold maxLen at hm;omega,fun e=>(by cases e),?_⟩
  by_cases h0:len=0
  ·exact .inl h0
  ·obtain⟨_,_,_,_,_,_,_,h00,_⟩:=each 0 (by omega)
   obtain⟨b,off,sp⟩:=a
   have hsp:sp=none:=by simpa [Addr.add] using World.cell?_spot h00
   subst hsp
   refine .inr ⟨b,off,rfl,fun j hj=>?_⟩
   have e1:((List.range len).map F).getD j (false,[],[])=F j:=by rw[List.getD_eq_getElem?_getD,List.getElem?_map,List.getElem?_range hj];rfl
   rw[e1]
   obtain⟨a',n',c',b',m',d',q1,q2,q3,q4,q5⟩:=hF j (by omega)
   rw[add_plain] at q1 q2 q3
   exact⟨a',n',c',b',m',d',q1,by rw[Nat.add_assoc];exact q2,by rw[Nat.add_assoc];exact q3,q4,q5⟩
end
open Go.ChangeShapes Go.WideShapes Go.ChangeAt Go.RowKit Go.Deep
section
variable {H:Type} {enc:TypeId × Value→H} {P:Program} {W:World} {base:Nat}
theorem um_{t e s:TypeId}{g0 g1 f0 f1 f2:Field}{q:TypeId}{v:Value}{d:DataW H}{p:List MemPlace}(hg:P.underlying t=some (.struct #[g0,g1]))(hgo:oneCellFields P #[g0,g1]=true)(hgC:P.cellsOf t=2)
 (r0:P.underlying g0.type=some (.slice e)) (r1:P.underlying g1.type=some (.slice s)) (hs:P.underlying e=some (.struct #[f0,f1,f2])) (hes:e=s) (hone:oneCellFields P #[f0,f1,f2]=true) (hC:P.cellsOf e=3)
 (hb:P.underlying f0.type=some .bool) (h1:P.underlying f1.type=some (.slice q)) (h2:P.underlying f2.type=some (.slice q)) (hq:P.underlying q=some (.int .u32)) (hcq:P.cellsOf q=1)
 (hv:Value.okWide P W .any base t v) (h:DataW.Trod enc P W 0 (fun _=>true) true t v d p):∃(a:OA_) (n c:Nat) (K:List Fx) (b:OA_) (m d:Nat) (M:List Fx),v=.agg #[.slice a n c,.slice b m d]∧Fxs W a n c K∧Fxs W b m d M:=by
 obtain⟨v0,v1,y0,y1,m,rfl,_,_,k0,k1⟩:=Joins.open_agg2 hg hgo hgC hv h
 subst hes
 obtain⟨a,n,c,l,rfl,w0⟩:=ok_ r0 hs hone hC hb h1 h2 hq hcq k0
 obtain⟨b,m',d',l',rfl,w1⟩:=ok_ r1 hs hone hC hb h1 h2 hq hcq k1
 obtain⟨K,hK⟩:=Frs.to w0
 obtain⟨M,hM⟩:=Frs.to w1
 exact⟨a,n,c,K,b,m',d',M,rfl,hK,hM⟩
end
namespace ratfTells
open Go.ChangeShapes Go.WideShapes Go.ChangeAt Go.RowKit
theorem own:ownKnob Tryz.prog.godebug=none:=by kernel_rfl
theorem laidOut:laidOutB Tryz.prog=true:=by kernel_rfl
theorem contract(H:Type)(enc:TypeId × Value→H)(W:World)(base:Nat)(args:Array Value)(ds gs:List (DataW H))(before:List MemPlace)
 (hval:∀(j:Nat) t v,Tryz.f3.params[j]? = some t→args[j]? = some v→Value.okWide Tryz.prog W .any base t v)
 (hW:DataW.Whole enc Tryz.prog Tryz.f3.params.toList Rows.ratfTellsSpec.vars false W args.toList ds gs before) :
 Calls Tryz.prog 3 args W fun e W'=>∃v,e=.returned v∧Rows.ratfTellsSpec.post enc Tryz.prog Tryz.f3 false true false false W args v W':=by
 have hW':=hW
 obtain⟨p,q,hA0,hV,rfl,hfz,hnd⟩:=hW
 have hA:DataW.TrodAll enc Tryz.prog W 0 (fun _=>true) true Tryz.f3.params.toList args.toList ds p:=hA0
 rw[Tryz.params3] at hA hval
 obtain⟨v0,vs0,d0,ds0,p0,q0,hargs,rfl,rfl,h0,r0⟩:=trodAll_cons hA
 obtain⟨v1,vs1,d1,ds1,p1,q1,rfl,rfl,rfl,h1,r1⟩:=trodAll_cons r0
 obtain⟨v2,vs2,d2,ds2,p2,q2,rfl,rfl,rfl,h2,r2⟩:=trodAll_cons r1
 obtain⟨rfl,rfl,rfl⟩:=trodAll_nil r2
 obtain rfl:args=#[v0,v1,v2]:=by cases args;simp_all
 obtain⟨a0,n0,c0,K0,x0,y0,z0,M0,rfl,wd0,we0⟩:=um_ Tryz.underlying24 (by kernel_rfl) (by kernel_rfl) Tryz.underlying22 Tryz.underlying22 Tryz.underlying27 rfl (by kernel_rfl) (by kernel_rfl) Tryz.underlying4 Tryz.underlying25 Tryz.underlying25 Tryz.underlying81 (by kernel_rfl) (hval 0 24 v0 rfl rfl) h0
 obtain⟨a1,n1,c1,K1,x1,y1,z1,M1,rfl,wd1,we1⟩:=um_ Tryz.underlying24 (by kernel_rfl) (by kernel_rfl) Tryz.underlying22 Tryz.underlying22 Tryz.underlying27 rfl (by kernel_rfl) (by kernel_rfl) Tryz.underlying4 Tryz.underlying25 Tryz.underlying25 Tryz.underlying81 (by kernel_rfl) (hval 1 24 v1 rfl rfl) h1
 obtain⟨g2,a2,n2,c2,l2,e2,m2,f2,k2,rfl,wd2,we2⟩:=open_frac Tryz.underlying27 (by kernel_rfl) (by kernel_rfl) Tryz.underlying4 Tryz.underlying25 Tryz.underlying25 Tryz.underlying81 (by kernel_rfl) (hval 2 27 v2 rfl rfl) h2
 clear hA0
 refine (sj_ tm_ (sa_ tm_ fracSaid) a0 n0 c0 K0 x0 y0 z0 M0 a1 n1 c1 K1 x1 y1 z1 M1 g2 a2 n2 c2 l2 e2 m2 f2 k2 W wd0 we0 wd1 we1 wd2 we2).mono fun e W' hg=>?_
 obtain⟨he,hb⟩:=hg
 subst he
 exact⟨_,rfl,law_post laidOut (by kernel_rfl) (by kernel_rfl) Tryz.underlying4 rfl rfl hW' hb⟩
theorem lifted(os:Os)(started:os.Started)(H:Type)(enc:TypeId × Value→H) :
 ReturnsInHanded {} Tryz.checked os 3 .any (Rows.ratfTellsSpec.pre6 enc Tryz.prog Tryz.f3 Rows.ratfTellsRow.domain false) (Rows.ratfTellsSpec.post enc Tryz.prog Tryz.f3 false true false false):=by
 refine returnsInHanded_of_change (C:=Tryz.checked) own started (by kernel_rfl) Tryz.func3
  (ChangeSpec.witness6 (enc:=enc) (C:=Tryz.checked) false ⟨#[],#[.agg #[.slice none 0 0,.slice none 0 0],.agg #[.slice none 0 0,.slice none 0 0],.agg #[.bool false,.slice none 0 0,.slice none 0 0]],[]⟩ 8 (by kernel_rfl) (by kernel_rfl) (by kernel_rfl) (by kernel_rfl)) ?_
 intro W base args ds gs before hval hW _ _
 exact contract H enc W base args ds gs before hval hW
theorem said:Rows.RatfTellsSaid:=
 OpenClaim.holds_of_wide 3 Tryz.f3 rfl rfl rfl rfl rfl rfl rfl ⟨rfl,rfl,rfl,rfl,rfl⟩ rfl rfl rfl rfl rfl (by kernel_rfl) Tryz.func3 (by kernel_rfl)
  (of_decide_eq_true (by kernel_rfl)) (by unfold Func.isWrapper;first | (rw[if_pos (by decide +kernel)];kernel_rfl) | (rw[if_neg (by decide +kernel)];exact⟨rfl,rfl⟩))
  (fun os started H enc _=>lifted os started H enc)
#print axioms said
end ratfTells
end Go.Proofs.YtocebjbjnfammaaGreat
