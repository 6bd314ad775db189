import Derived.Test.YtocebjbjnfammaaGreatVG3
import Derived.Deep.AppendLies
import Derived.Test.YtocebjbjnfammaaGreatVG1
set_option maxRecDepth 4096
set_option maxHeartbeats 16000000
namespace Go.Proofs.YtocebjbjnfammaaGreat
open Go.RowKit
def co (p:LR_) (i:Nat):Rat:=p.getD i 0
theorem d3_(i:Nat):co [] i=0:=rfl
theorem gx_(x:Rat)(l:LR_):co (x :: l) 0=x:=rfl
theorem bz_(x:Rat)(l:LR_)(i:Nat):co (x :: l) (i+1)=co l i:=by
 unfold co
 rw[List.getD_eq_getElem?_getD,List.getD_eq_getElem?_getD,List.getElem?_cons_succ]
theorem dv_{l:List Rat}{i:Nat}(h:l.length≤i):co l i=0:=by
 unfold co
 rw[List.getD_eq_getElem?_getD,List.getElem?_eq_none h];rfl
def peq (a b:LR_):Prop:=∀i,co a i=co b i
theorem peq.refl(a:LR_):peq a a:=fun _=>rfl
theorem peq.symm{a b:List Rat}(h:peq a b):peq b a:=fun i=>(h i).symm
theorem peq.trans{a b c:List Rat}(h:peq a b)(k:peq b c):peq a c:=fun i=>(h i).trans (k i)
def ai_:List Rat→List Rat
 | [] => []
 | x :: l=>if ai_ l=[]∧x=0 then [] else x :: ai_ l
theorem au_:∀p:LR_,peq (ai_ p) p
 | [],_=>rfl
 | x :: l,i=>by
   have ih:=au_ l
   rw[ai_]
   split
   ·rename_i h
    obtain⟨h1,h2⟩:=h
    rw[h1] at ih
    cases i with
    | zero=>rw[gx_,h2];rfl
    | succ i=>rw[bz_,←ih i];rfl
   ·cases i with
    | zero=>rfl
    | succ i=>rw[bz_,bz_];exact ih i
theorem hx_:∀{p:List Rat},(∀i,co p i=0)→ai_ p=[]
 | [],_=>rfl
 | x :: l,h=>by
   have h1:=hx_ (p:=l) (fun i=>by have:=h (i+1);rwa [bz_] at this)
   rw[ai_,if_pos ⟨h1,h 0⟩]
theorem bn_:∀{a b:List Rat},peq a b→ai_ a=ai_ b
 | [],b,h=>(hx_ (fun i=>(h i).symm)).symm
 | x :: a,[],h=>hx_ (fun i=>h i)
 | x :: a,y :: b,h=>by
   have h0:x=y:=h 0
   have h1:=bn_ (a:=a) (b:=b) (fun i=>by have:=h (i+1);rwa [bz_,bz_] at this)
   rw[ai_,ai_,h0,h1]
theorem pnorm_iff{a b:List Rat}:ai_ a=ai_ b↔peq a b:=⟨fun h=>(au_ a).symm.trans (h▸au_ b),bn_⟩
theorem a9_(a:LR_):ai_ (ai_ a)=ai_ a:=bn_ (au_ a)
theorem bf_:∀a:LR_,(ai_ a).length≤a.length
 | [] => Nat.le_refl _
 | x :: l=>by
   have:=bf_ l
   rw[ai_]
   split
   ·simp
   ·simp only[List.length_cons];omega
theorem db_:∀a:LR_,ai_ a=a.take (ai_ a).length
 | [] => rfl
 | x :: l=>by
   have ih:=db_ l
   rw[ai_]
   split
   ·rfl
   ·rw[List.length_cons,List.take_succ_cons,←ih]
theorem jz_{a:List Rat}{q:Rat}(h:q∈ai_ a):q∈a:=by
 rw[db_] at h
 exact List.mem_of_mem_take h
def plen (a:LR_):Nat:=(ai_ a).length
theorem am_{a b:List Rat}(h:peq a b):plen a=plen b:=by unfold plen;rw[bn_ h]
theorem a6_(a:LR_):plen a≤a.length:=bf_ a
theorem cc_{a:List Rat}{i:Nat}(h:plen a≤i):co a i=0:=by rw[←au_ a i];exact dv_ h
theorem dm_:∀{a:List Rat} {n:Nat},plen a=n+1→co a n≠0
 | [],n,h=>by simp[plen,ai_] at h
 | x :: l,n,h=>by
   unfold plen at h
   rw[ai_] at h
   split at h
   ·simp at h
   ·rename_i hc
    rw[List.length_cons] at h
    cases n with
    | zero=>
      have h1:ai_ l=[]:=List.eq_nil_of_length_eq_zero (by omega)
      rw[gx_]
      exact fun h2=>hc ⟨h1,h2⟩
    | succ n=>
      rw[bz_]
      exact dm_ (a:=l) (by unfold plen;omega)
theorem gb_{a:List Rat}{n:Nat}(h:∀i,n≤i→co a i=0):plen a≤n:=by
 rcases Nat.lt_or_ge n (plen a) with h1 | h1
 ·exact absurd (h (plen a - 1) (by omega)) (dm_ (a:=a) (n:=plen a - 1) (by omega))
 ·exact h1
theorem hy_{a:List Rat}{n:Nat}(h:co a n≠0):n < plen a:=by
 rcases Nat.lt_or_ge n (plen a) with h1 | h1
 ·exact h1
 ·exact absurd (cc_ h1) h
theorem plen_zero{a:List Rat}:plen a=0↔∀i,co a i=0:=⟨fun h i=>cc_ (by omega),fun h=>by have:=gb_ (a:=a) (n:=0) (fun i _=>h i);omega⟩
theorem hp_:plen []=0:=rfl
theorem cm_{a:List Rat}(h:plen a=0):peq a []:=fun i=>plen_zero.1 h i
def padd:List Rat→List Rat→List Rat
 | [],b=>b
 | a,[] => a
 | x :: a,y :: b=>(x+y) :: padd a b
theorem a4_:∀(a b:LR_) (i:Nat),co (padd a b) i=co a i+co b i
 | [],b,i=>by rw[padd,d3_];grind
 | x :: a,[],i=>by
   rw[padd,d3_]
   ·grind
   ·simp
 | x :: a,y :: b,0=>rfl
 | x :: a,y :: b,i+1=>by rw[padd,bz_,bz_,bz_];exact a4_ a b i
theorem ah_(c:Rat):∀(a:LR_) (i:Nat),co (ag_ c a) i=c * co a i
 | [],i=>by show (0:Rat)=c * 0;grind
 | x :: a,0=>rfl
 | x :: a,i+1=>by
   show co (c * x :: ag_ c a) (i+1)=_
   rw[bz_,bz_];exact ah_ c a i
def pmul:List Rat→List Rat→List Rat
 | [],_=>[]
 | x :: a,b=>padd (ag_ x b) (0 :: pmul a b)
theorem cp_:∀(a b:LR_) (n:Nat),co (pmul a b) n=b5_ (n+1) (fun i=>co a i * co b (n - i))
 | [],b,n=>by
   rw[pmul,d3_,bh_ (g:=fun _=>0) (fun k _=>by rw[d3_];grind),ea_]
 | x :: a,b,0=>by
   rw[pmul,a4_,ah_,gx_]
   show _=(0:Rat)+co (x :: a) 0 * co b 0
   rw[gx_];grind
 | x :: a,b,n+1=>by
   rw[pmul,a4_,ah_,bz_,cp_ a b n,fk_ (n+1)]
   rw[bh_ (n:=n+1) (f:=fun k=>co (x :: a) (k+1) * co b (n+1 - (k+1))) (g:=fun i=>co a i * co b (n - i)) (fun k _=>by rw[bz_,Nat.add_sub_add_right])]
   rw[gx_,Nat.sub_zero]
theorem ax_{a a' b b':List Rat}(h:peq a a')(k:peq b b'):peq (pmul a b) (pmul a' b'):=fun n=>by
 rw[cp_,cp_]
 exact bh_ fun i _=>by rw[h i,k (n - i)]
theorem c1_{a a' b b':List Rat}(h:peq a a')(k:peq b b'):peq (padd a b) (padd a' b'):=fun n=>by rw[a4_,a4_,h n,k n]
theorem br_(c:Rat){a a':List Rat}(h:peq a a'):peq (ag_ c a) (ag_ c a'):=fun n=>by rw[ah_,ah_,h n]
theorem ef_(a b c:LR_):peq (pmul (padd a b) c) (padd (pmul a c) (pmul b c)):=fun n=>by
 rw[a4_,cp_,cp_,cp_,←km_]
 exact bh_ fun i _=>by rw[a4_];grind
theorem padd_pmul(a b c:LR_):peq (pmul a (padd b c)) (padd (pmul a b) (pmul a c)):=fun n=>by
 rw[a4_,cp_,cp_,cp_,←km_]
 exact bh_ fun i _=>by rw[a4_];grind
theorem ck_(k:Rat)(a b:LR_):peq (pmul (ag_ k a) b) (ag_ k (pmul a b)):=fun n=>by
 rw[ah_,cp_,cp_,←kk_]
 exact bh_ fun i _=>by rw[ah_];grind
theorem fe_(k:Rat)(a b:LR_):peq (pmul a (ag_ k b)) (ag_ k (pmul a b)):=fun n=>by
 rw[ah_,cp_,cp_,←kk_]
 exact bh_ fun i _=>by rw[ah_];grind
theorem rv_(p c:LR_):peq (pmul (0 :: p) c) (0 :: pmul p c):=fun n=>by
 rw[pmul,a4_,ah_];grind
theorem dd_:∀a b c:LR_,peq (pmul (pmul a b) c) (pmul a (pmul b c))
 | [],b,c=>peq.refl _
 | x :: a,b,c=>by
   have h1:peq (pmul (padd (ag_ x b) (0 :: pmul a b)) c) (padd (pmul (ag_ x b) c) (pmul (0 :: pmul a b) c)):=ef_ _ _ _
   refine h1.trans (c1_ (ck_ x b c) ((rv_ _ c).trans fun n=>?_))
   cases n with
   | zero=>rfl
   | succ n=>rw[bz_,bz_];exact dd_ a b c n
theorem dl_(a:LR_):peq (pmul a []) []:=fun n=>by
 rw[cp_,bh_ (g:=fun _=>0) (fun k _=>by rw[d3_];grind),ea_];rfl
theorem lp_{n k:Nat}{f:Nat→Rat}(hk:k < n)(h:∀i,i < n→i≠k→f i=0):b5_ n f=f k:=by
 induction n with
 | zero=>omega
 | succ n ih=>
   show b5_ n f+f n=f k
   by_cases hkn:k=n
   ·subst hkn
    rw[bh_ (g:=fun _=>0) (fun i hi=>h i (by omega) (by omega)),ea_];grind
   ·rw[ih (by omega) (fun i hi hne=>h i (by omega) hne),h n (by omega) (by omega)];grind
theorem em_{a b:List Rat}{m n:Nat}(ha:plen a=m+1)(hb:plen b=n+1):plen (pmul a b)=m+n+1∧co (pmul a b) (m+n)=co a m * co b n:=by
 have e:co (pmul a b) (m+n)=co a m * co b n:=by
  rw[cp_,lp_ (k:=m) (by omega) (fun i hi hne=>?_),Nat.add_sub_cancel_left]
  rcases Nat.lt_or_ge m i with h | h
  ·rw[cc_ (a:=a) (by omega)];grind
  ·rw[cc_ (a:=b) (i:=m+n - i) (by omega)];grind
 have h1:=dm_ ha
 have h2:=dm_ hb
 have h3:co (pmul a b) (m+n)≠0:=by
  rw[e]
  intro h
  rcases Rat.mul_eq_zero.1 h with h | h
  ·exact h1 h
  ·exact h2 h
 have h4:=hy_ h3
 have h5:plen (pmul a b)≤m+n+1:=gb_ fun i hi=>by
  rw[cp_,bh_ (g:=fun _=>0) (fun k hk=>?_),ea_]
  rcases Nat.lt_or_ge m k with h | h
  ·rw[cc_ (a:=a) (by omega)];grind
  ·rw[cc_ (a:=b) (i:=i - k) (by omega)];grind
 exact⟨by omega,e⟩
theorem nn_{a b:List Rat}(h:plen (pmul a b)=0):plen a=0∨plen b=0:=by
 rcases Nat.eq_zero_or_pos (plen a) with h1 | h1
 ·exact .inl h1
 ·rcases Nat.eq_zero_or_pos (plen b) with h2 | h2
  ·exact .inr h2
  ·have:=(em_ (a:=a) (b:=b) (m:=plen a - 1) (n:=plen b - 1) (by omega) (by omega)).1
   omega
theorem f1_(a b:LR_):plen (padd a b)≤max (plen a) (plen b):=gb_ fun i hi=>by
 rw[a4_,cc_ (a:=a) (by omega),cc_ (a:=b) (by omega)];grind
theorem fg_(c:Rat)(a:LR_):plen (ag_ c a)≤plen a:=gb_ fun i hi=>by rw[ah_,cc_ hi];grind
theorem ba_{c:Rat}(hc:c≠0)(a:LR_):plen (ag_ c a)=plen a:=by
 refine Nat.le_antisymm (fg_ c a) (gb_ fun i hi=>?_)
 have h:=cc_ hi
 rw[ah_] at h
 rcases Rat.mul_eq_zero.1 h with h | h
 ·exact absurd h hc
 ·exact h
def psub (a b:LR_):List Rat:=padd a (ag_ (-1) b)
theorem dj_(a b:LR_)(i:Nat):co (psub a b) i=co a i - co b i:=by
 unfold psub
 rw[a4_,ah_];grind
def isDiv (a b q r:LR_):Prop:=peq a (padd (pmul q b) r)∧plen r < plen b
theorem isDiv.same{a b q r q' r':List Rat}(h:isDiv a b q r)(k:isDiv a b q' r'):peq q q'∧peq r r':=by
 obtain⟨h1,h2⟩:=h
 obtain⟨k1,k2⟩:=k
 have e:∀i,co (pmul (psub q q') b) i=co (psub r' r) i:=fun i=>by
  have x1:=h1 i
  have x2:=k1 i
  rw[a4_] at x1 x2
  have x3:=ef_ q (ag_ (-1) q') b i
  rw[a4_,ck_ (-1) q' b i,ah_] at x3
  unfold psub
  rw[x3,←psub,dj_];grind
 have hq:plen (psub q q')=0:=by
  rcases Nat.eq_zero_or_pos (plen (psub q q')) with h0 | h0
  ·exact h0
  ·have t:=(em_ (a:=psub q q') (b:=b) (m:=plen (psub q q') - 1) (n:=plen b - 1) (by omega) (by omega)).1
   have u:=am_ e
   have v:plen (psub r' r)≤max (plen r') (plen (ag_ (-1) r)):=f1_ r' (ag_ (-1) r)
   have w:=fg_ (-1) r
   omega
 have hq2:peq q q':=fun i=>by
  have x:=plen_zero.1 hq i
  rw[dj_] at x
  grind
 refine ⟨hq2,fun i=>?_⟩
 have x1:=h1 i
 have x2:=k1 i
 rw[a4_] at x1 x2
 have x3:=ax_ hq2 (peq.refl b) i
 grind
theorem isDiv.of{a a' b b' q q' r r':List Rat}(h:isDiv a b q r)(ha:peq a a')(hb:peq b b')(hq:peq q q')(hr:peq r r'):isDiv a' b' q' r':=
 ⟨(ha.symm.trans h.1).trans (c1_ (ax_ hq hb) hr),by rw[←am_ hr,←am_ hb];exact h.2⟩
def pdvd (b a:LR_):Prop:=∃k,peq a (pmul k b)
theorem pdvd.rest{a b q r:List Rat}(h:pdvd b a)(k:isDiv a b q r):plen r=0:=by
 obtain⟨c,hc⟩:=h
 have h1:isDiv a b c []:=⟨hc.trans fun i=>by rw[a4_,d3_];grind,by have:=k.2;rw[hp_];omega⟩
 have:=(k.same h1).2
 rw[am_ this,hp_]
def common (a b g:LR_):Prop:=pdvd g a∧pdvd g b∧∃u v,peq g (padd (pmul u a) (pmul v b))
theorem common.of{a a' b b' g g':List Rat}(h:common a b g)(ha:peq a a')(hb:peq b b')(hg:peq g g'):common a' b' g':=by
 obtain⟨⟨k,hk⟩,⟨l,hl⟩,u,v,huv⟩:=h
 exact⟨⟨k,(ha.symm.trans hk).trans (ax_ (peq.refl _) hg)⟩,⟨l,(hb.symm.trans hl).trans (ax_ (peq.refl _) hg)⟩,u,v,(hg.symm.trans huv).trans (c1_ (ax_ (peq.refl _) ha) (ax_ (peq.refl _) hb))⟩
theorem common.step{a b q r g:List Rat}(hd:peq a (padd (pmul q b) r))(h:common b r g):common a b g:=by
 obtain⟨⟨k,hk⟩,⟨l,hl⟩,u,v,huv⟩:=h
 refine ⟨⟨padd (pmul q k) l,?_⟩,⟨k,hk⟩,v,psub u (pmul v q),?_⟩
 ·refine hd.trans ?_
  refine (c1_ ((ax_ (peq.refl q) hk).trans (dd_ q k g).symm) hl).trans ?_
  exact (ef_ _ _ _).symm
 ·refine huv.trans fun i=>?_
  have e1:=padd_pmul v (pmul q b) r i
  have e2:=ax_ (peq.refl v) hd i
  have e3:=dd_ v q b i
  have e4:=ef_ u (ag_ (-1) (pmul v q)) b i
  have e5:=ck_ (-1) (pmul v q) b i
  rw[a4_] at e1 e4
  rw[ah_] at e5
  rw[a4_,a4_]
  show _=_+co (pmul (padd u (ag_ (-1) (pmul v q))) b) i
  rw[e4,e5,e2,e1,e3];grind
theorem l4_(c:Rat)(a:LR_):peq (pmul [c] a) (ag_ c a):=fun i=>by
 rw[pmul,a4_]
 show _+co (0 :: []) i=_
 cases i with
 | zero=>rw[gx_];grind
 | succ i=>rw[bz_,d3_];grind
theorem common.none(a:LR_):common a [] a:=⟨⟨[1],fun i=>by rw[l4_ 1 a i,ah_];grind⟩,⟨[],fun i=>rfl⟩,[1],[],fun i=>by
 rw[a4_,l4_ 1 a i,ah_]
 show _=_+(0:Rat)
 grind⟩
theorem common.scale{a b g:List Rat}(h:common a b g){c:Rat}(hc:c≠0):common a b (ag_ c g):=by
 obtain⟨⟨k,hk⟩,⟨l,hl⟩,u,v,huv⟩:=h
 have e:∀x:LR_,peq (pmul (ag_ c⁻¹ x) (ag_ c g)) (pmul x g):=fun x i=>by
  rw[ck_ c⁻¹ x (ag_ c g) i,ah_,fe_ c x g i,ah_,←Rat.mul_assoc,Rat.inv_mul_cancel c hc];grind
 refine ⟨⟨ag_ c⁻¹ k,hk.trans (e k).symm⟩,⟨ag_ c⁻¹ l,hl.trans (e l).symm⟩,ag_ c u,ag_ c v,fun i=>?_⟩
 rw[a4_,ck_ c u a i,ck_ c v b i,ah_,ah_,ah_,huv i,a4_];grind
def isGcd (a b g:LR_):Prop:=common a b g∧∀n,plen g=n+1→co g n=1
theorem pdvd.len{a b:List Rat}(h:pdvd b a)(ha:plen a≠0):plen b≠0∧plen b≤plen a:=by
 obtain⟨k,hk⟩:=h
 have e:=am_ hk
 have hk0:plen k≠0:=fun h0=>ha (by
  rw[e]
  have:=am_ (ax_ (cm_ h0) (peq.refl b))
  rw[this];rfl)
 have hb0:plen b≠0:=fun h0=>ha (by
  rw[e]
  have:=am_ ((ax_ (peq.refl k) (cm_ h0)).trans (dl_ k))
  rw[this];rfl)
 have:=(em_ (a:=k) (b:=b) (m:=plen k - 1) (n:=plen b - 1) (by omega) (by omega)).1
 exact⟨hb0,by omega⟩
theorem pdvd.made{d a b g u v:List Rat}(h:pdvd d a)(k:pdvd d b)(hg:peq g (padd (pmul u a) (pmul v b))):pdvd d g:=by
 obtain⟨x,hx⟩:=h
 obtain⟨y,hy⟩:=k
 refine ⟨padd (pmul u x) (pmul v y),hg.trans ?_⟩
 refine (c1_ ((ax_ (peq.refl u) hx).trans (dd_ u x d).symm) ((ax_ (peq.refl v) hy).trans (dd_ v y d).symm)).trans ?_
 exact (ef_ _ _ _).symm
theorem isGcd.same{a b g h:List Rat}(hg:isGcd a b g)(hh:isGcd a b h):peq g h:=by
 obtain⟨⟨g1,g2,u,v,g3⟩,g4⟩:=hg
 obtain⟨⟨h1,h2,u',v',h3⟩,h4⟩:=hh
 have d1:pdvd g h:=g1.made g2 h3
 have d2:pdvd h g:=h1.made h2 g3
 rcases Nat.eq_zero_or_pos (plen g) with h0 | h0
 ·rcases Nat.eq_zero_or_pos (plen h) with k0 | k0
  ·exact (cm_ h0).trans (cm_ k0).symm
  ·exact absurd h0 (d1.len (by omega)).1
 ·have l1:=d2.len (by omega)
  have l2:=d1.len (by omega)
  obtain⟨k,hk⟩:=d2
  have e:=am_ hk
  have hk0:plen k≠0:=fun z=>by
   have:=am_ (ax_ (cm_ z) (peq.refl h))
   rw[this] at e
   have:plen (pmul [] h)=0:=rfl
   omega
  obtain⟨t1,t2⟩:=em_ (a:=k) (b:=h) (m:=plen k - 1) (n:=plen h - 1) (by omega) (by omega)
  have hk1:plen k=1:=by omega
  have ek:peq k [co k 0]:=fun i=>by
   cases i with
   | zero=>rfl
   | succ i=>rw[bz_,d3_];exact cc_ (by omega)
  have eg:peq g (ag_ (co k 0) h):=(hk.trans (ax_ ek (peq.refl h))).trans (l4_ _ _)
  have x1:=g4 (plen g - 1) (by omega)
  have x2:=h4 (plen h - 1) (by omega)
  have x3:=eg (plen g - 1)
  rw[ah_,x1,show plen g - 1=plen h - 1 by omega,x2] at x3
  refine eg.trans fun i=>?_
  rw[ah_]
  grind
theorem common.times{a b g:List Rat}(h:common a b g)(z:LR_):common (pmul a z) (pmul b z) (pmul g z):=by
 obtain⟨⟨k,hk⟩,⟨l,hl⟩,u,v,huv⟩:=h
 refine ⟨⟨k,(ax_ hk (peq.refl z)).trans (dd_ k g z)⟩,⟨l,(ax_ hl (peq.refl z)).trans (dd_ l g z)⟩,u,v,?_⟩
 refine (ax_ huv (peq.refl z)).trans ((ef_ _ _ _).trans ?_)
 exact c1_ (dd_ u a z) (dd_ v b z)
theorem pdvd.trans{a b c:List Rat}(h:pdvd a b)(k:pdvd b c):pdvd a c:=by
 obtain⟨x,hx⟩:=h
 obtain⟨y,hy⟩:=k
 exact⟨pmul y x,(hy.trans (ax_ (peq.refl y) hx)).trans (dd_ y x a).symm⟩
def al_ (x:Rat):List Rat→Rat
 | [] => 0
 | c :: l=>c+x * al_ x l
theorem hu_(x:Rat):∀{l:List Rat},(∀i,co l i=0)→al_ x l=0
 | [],_=>rfl
 | c :: l,h=>by
   rw[al_,hu_ x (fun i=>by have:=h (i+1);rwa [bz_] at this),show c=0 from h 0];grind
theorem ak_(x:Rat):∀{a b:List Rat},peq a b→al_ x a=al_ x b
 | [],b,h=>(hu_ x (fun i=>(h i).symm)).symm
 | c :: a,[],h=>hu_ x (fun i=>h i)
 | c :: a,d :: b,h=>by
   rw[al_,al_,ak_ x (a:=a) (b:=b) (fun i=>by have:=h (i+1);rwa [bz_,bz_] at this),show c=d from h 0]
theorem av_(x:Rat):∀a b:LR_,al_ x (padd a b)=al_ x a+al_ x b
 | [],b=>by rw[padd,al_];grind
 | c :: a,[] => by
   rw[padd]
   ·show _=_+(0:Rat)
    grind
   ·simp
 | c :: a,d :: b=>by rw[padd,al_,al_,al_,av_ x a b];grind
theorem an_(x k:Rat):∀a:LR_,al_ x (ag_ k a)=k * al_ x a
 | [] => by show (0:Rat)=k * 0;grind
 | c :: a=>by
   show k * c+x * al_ x (ag_ k a)=k * (c+x * al_ x a)
   rw[an_ x k a];grind
theorem ac_(x:Rat):∀a b:LR_,al_ x (pmul a b)=al_ x a * al_ x b
 | [],b=>by show (0:Rat)=0 * _;grind
 | c :: a,b=>by
   rw[pmul,av_,an_,al_,al_,ac_ x a b];grind
theorem fn_{A B:Nat}{c:Rat}{l:List Rat}(hc:qlen c≤B)(hl:∀q∈l,qlen q≤A):∀q∈ag_ c l,qlen q≤A+B+1:=fun q hq=>by
 obtain⟨x,hx,rfl⟩:=List.mem_map.1 hq
 have h1:=hl x hx
 have h2:=ch_ c x
 omega
theorem d8_{L:List Fx}{k:Nat}(h:k < L.length):L.getD k Fx.zero∈L:=by
 rw[List.getD_eq_getElem?_getD,List.getElem?_eq_getElem h];exact List.getElem_mem h
theorem mu_{L:List Fx}{k:Nat}(h:k < L.length):L.take (k+1)=L.take k ++ [L.getD k Fx.zero]:=by
 rw[List.take_succ_eq_append_getElem h,List.getD_eq_getElem?_getD,List.getElem?_eq_getElem h];rfl
theorem l6_{L:List Rat}{k:Nat}(h:k < L.length):L.getD k 0∈L:=by
 rw[List.getD_eq_getElem?_getD,List.getElem?_eq_getElem h];exact List.getElem_mem h
theorem nj_{L:List Rat}{k:Nat}(h:k < L.length):L.take (k+1)=L.take k ++ [L.getD k 0]:=by
 rw[List.take_succ_eq_append_getElem h,List.getD_eq_getElem?_getD,List.getElem?_eq_getElem h];rfl
theorem cu_{L:List Fx}{k:Nat}(h:k < L.length):(fqs L).getD k 0=(L.getD k Fx.zero).q:=by
 rw[List.getD_eq_getElem?_getD,fqs_at L k h];rfl
theorem dq_{α:Type}{L:List α}{k:Nat}(h:k≤L.length):(L.take k).length=k:=by rw[List.length_take];omega
theorem ar_{w w':World}{p q r:Addr}{x y z:Value}(h:w.cell? p=some x∧w.cell? q=some y∧w.cell? r=some z)(hb:Below w.heap.size w w'):w'.cell? p=some x∧w'.cell? q=some y∧w'.cell? r=some z:=⟨cell_later hb h.1,cell_later hb h.2.1,cell_later hb h.2.2⟩
theorem Rw.at{w:World}{a:Option Addr}{n cap:Nat}{qs:List Rat}(h:Rw w a n cap qs){j:Nat}(hj:j < n):∃b off,a=some ⟨b,off,none⟩∧∃(a':OA_) (n' c':Nat) (b':OA_) (m' d':Nat),
 (w.cell? ⟨b,off+j * 3,none⟩=some (.bool (zneg (qs.getD j 0).num))∧w.cell? ⟨b,off+j * 3+1,none⟩=some (.slice a' n' c')∧w.cell? ⟨b,off+j * 3+2,none⟩=some (.slice b' m' d'))∧
 Wd w a' n' c' (dg (qs.getD j 0).num.natAbs)∧Wd w b' m' d' (dg (qs.getD j 0).den):=by
 obtain⟨L,h1,h2,h3⟩:=h
 obtain⟨b,off,rfl,e0,e1,e2,hok⟩:=h1.at hj
 have hl:j < L.length:=by rw[h1.len];exact hj
 have hq:qs.getD j 0=(L.getD j Fx.zero).q:=by rw[←h2];exact cu_ hl
 obtain⟨r1,r2,r3⟩:=h3 _ (d8_ hl)
 rw[hq,←r1,←r2,←r3]
 exact⟨b,off,rfl,_,_,_,_,_,_,⟨e0,e1,e2⟩,hok.1,hok.2⟩
theorem Rw.bound{w:World}{a:Option Addr}{n cap:Nat}{qs:List Rat}(h:Rw w a n cap qs):n≤cap∧cap≤9223372036854775807:=by
 obtain⟨L,h1,_⟩:=h
 exact h1.bound
theorem Rw.nil(w:World):Rw w none 0 0 []:=⟨[],⟨rfl,Nat.le_refl _,by omega,fun _=>rfl,fun x hx=>by (simp at hx),.inl rfl⟩,rfl,fun x hx=>by simp at hx⟩
def Cop (w:World) (base:Nat) (e:TypeId) (v:Value) (L:List Fx):Prop:=OwnC w base e v L∧∀x∈L,x.ok w
theorem Cop.nil(w:World)(base:Nat)(e:TypeId):Cop w base e (.slice none 0 0) []:=⟨OwnC.nil _ _ _,fun x hx=>by simp at hx⟩
theorem Cop.later{w w':World}{base:Nat}{e:TypeId}{v:Value}{L:List Fx}(h:Cop w base e v L)(hb:Below w.heap.size w w'):Cop w' base e v L:=⟨h.1.later hb,fun x hx=>(h.2 x hx).later hb⟩
theorem Cop.l_ {w w':World}{x0 x1 x2 x3}(h:Cop w x0 x1 x2 x3)(b:Below w.heap.size w w'):Hid (Cop w' x0 x1 x2 x3):=Lib.hid (h.later b)
theorem Cop.out{w:World}{base:Nat}{e:TypeId}{v:Value}{L:List Fx}(h:Cop w base e v L):∃(a:OA_) (cap:Nat),v=.slice a L.length cap∧Fxs w a L.length cap L:=h.1.slice h.2
theorem ia_{P:Program}(w:World){ops:Array Oper}{rest:List Oper}{o:Oper}{act:Act}{Q:Exit→Act→World→Prop}(hgd:o.guard=none)(s x:Operand)(t:TypeId)
 (ho:o.op=.call { callee:=.builtin .append,args:=#[s,x],argTypes:=#[t,t] })
 (base:Nat) (e:TypeId) (i:TypeInfo) (ht:P.underlying t=some (.slice e)) (hi:P.info? e=some i) (hz:i.zero=some (.agg #[.bool false,.slice none 0 0,.slice none 0 0]))
 (hsize:i.size=3) (hby:i.bytes=56) (v:Value) (L:List Fx) (hs:act.eval s=v) (hrow:Cop w base e v L)
 (ad:Addr) (y:Fx) (hx:act.eval x=.slice (some ad) 1 1)
 (hnews:∀j u,y.cells[j]? = some u→w.cell? (ad.add j)=some u) (hy:y.ok w)
 (hlen:L.length≤1000000) (hbase:base≤w.heap.size)
 (h:∀v' w',Cop w' base e v' (L ++ [y])→w.grownBy w' v.ownBlock→(∀k,v.ownBlock=some k→base≤k)→clean w v→wpList P ops Q rest (act.put o.dst v') w'):wpList P ops Q (o :: rest) act w:=by
 obtain⟨h1,h3⟩:=hrow
 have hzw:dr_ (Value.agg #[.bool false,.slice none 0 0,.slice none 0 0]).cells.toList:=by
  intro u hu k
  simp[Value.cells] at hu
  rcases hu with rfl | rfl <;> simp
 refine gv_ w hgd s x t ho base e i (.agg #[.bool false,.slice none 0 0,.slice none 0 0]) 3 56 ht hi hz hsize hby rfl (by decide) v L.length (L.flatMap Fx.cells) hs h1.1 ad 1 1 y.cells hx rfl hnews (nr_ _) (by unfold maxLen;omega) (by omega) hbase (by decide) h1.2 hzw (hj_ _) (d1_ _) ?_
 intro v' w' hown hgrow hcl
 refine h v' w' ⟨⟨by simpa [List.flatMap_append] using hown,hcl⟩,fun z hz=>?_⟩ hgrow (fun k hk=>h1.base k hk) h1.2
 rcases List.mem_append.1 hz with hz | hz
 ·exact Fx.aside (h3 z hz) h1.2 hgrow
 ·rw[List.mem_singleton.1 hz]
  exact Fx.aside hy h1.2 hgrow
theorem ce_{w:World}{g k cap j:Nat}{u x:Value}(h:clean w (.slice (some ⟨g,0,none⟩) k cap))(hx:w.cell? ⟨g,j,none⟩=some x)(hu:∀y:Int,u≠.int .u32 y):clean (w.setCell ⟨g,j,none⟩ u) (.slice (some ⟨g,0,none⟩) k cap):=by
 intro g' hg' i y hc
 have h2:=h g' hg' i y
 simp[Value.ownBlock] at hg'
 subst hg'
 by_cases hij:i=j
 ·subst hij
  rw[World.cell?_setCell_same _ _ _ hx] at hc
  exact hu y (Option.some.inj hc)
 ·rw[World.cell?_setCell_other _ ⟨g,j,none⟩ ⟨g,i,none⟩ _ (fun e=>hij (congrArg Addr.off e).symm)] at hc
  exact h2 hc
theorem ep_:∀(L:List Fx) (i:Nat) (x:Fx),i < L.length→(L.set i x).flatMap Fx.cells=(((L.flatMap Fx.cells).set (i * 3) (.bool x.s)).set (i * 3+1) (.slice x.a x.n x.c)).set (i * 3+2) (.slice x.b x.m x.d)
 | [],_,_,h=>by simp at h
 | y :: L,0,x,_=>by simp[Fx.cells]
 | y :: L,i+1,x,h=>by
   have h1:=ep_ L i x (by simpa using h)
   have h2:(y :: L).flatMap Fx.cells=.bool y.s :: .slice y.a y.n y.c :: .slice y.b y.m y.d :: L.flatMap Fx.cells:=by simp[Fx.cells]
   rw[h2,List.set_cons_succ,List.flatMap_cons,h1]
   have e0:(i+1) * 3=i * 3+1+1+1:=by omega
   rw[e0]
   simp[Fx.cells]
theorem Row.stored{w:World}{base:Nat}{e:TypeId}{g k cap:Nat}{qs:List Rat}(h:Row w base e (.slice (some ⟨g,0,none⟩) k cap) qs)(hk:k=qs.length){i:Nat}(hi:i < qs.length)(q:Rat)(a:OA_)(n c:Nat)(b:OA_)(m d:Nat)(ha:Wd w a n c (dg q.num.natAbs))(hb:Wd w b m d (dg q.den)) :
 Row (((w.setCell ⟨g,i * 3,none⟩ (.bool (zneg q.num))).setCell ⟨g,i * 3+1,none⟩ (.slice a n c)).setCell ⟨g,i * 3+2,none⟩ (.slice b m d)) base e (.slice (some ⟨g,0,none⟩) k cap) (qs.set i q)∧
 w.grownBy (((w.setCell ⟨g,i * 3,none⟩ (.bool (zneg q.num))).setCell ⟨g,i * 3+1,none⟩ (.slice a n c)).setCell ⟨g,i * 3+2,none⟩ (.slice b m d)) (some g):=by
 obtain⟨L,⟨h1,h2⟩,h3,h4⟩:=h
 have hL:L.length=qs.length:=by rw[←h3,List.length_map]
 have hkL:k=L.length:=hk.trans hL.symm
 subst hkL
 have hf:=bq_ L
 obtain⟨c0,c1,c2⟩:=e1_ L i (by omega)
 have p0:=h1.cellAt (i * 3) (by omega)
 have p1:=h1.cellAt (i * 3+1) (by omega)
 have p2:=h1.cellAt (i * 3+2) (by omega)
 rw[c0] at p0;rw[c1] at p1;rw[c2] at p2
 obtain⟨s0,g0⟩:=h1.stored (i * 3) (.bool (zneg q.num))
 obtain⟨s1,g1⟩:=s0.stored (i * 3+1) (.slice a n c)
 obtain⟨s2,g2⟩:=s1.stored (i * 3+2) (.slice b m d)
 have l0:=ce_ (j:=i * 3) (u:=.bool (zneg q.num)) h2 p0 (fun y e=>by cases e)
 have l1:=ce_ (j:=i * 3+1) (u:=.slice a n c) l0 ((World.cell?_setCell_other _ ⟨g,i * 3,none⟩ ⟨g,i * 3+1,none⟩ _ (fun e=>by simp at e)).trans p1) (fun y e=>by cases e)
 have l2:=ce_ (j:=i * 3+2) (u:=.slice b m d) l1 (((World.cell?_setCell_other _ ⟨g,i * 3+1,none⟩ ⟨g,i * 3+2,none⟩ _ (fun e=>by simp at e)).trans (World.cell?_setCell_other _ ⟨g,i * 3,none⟩ ⟨g,i * 3+2,none⟩ _ (fun e=>by simp at e))).trans p2) (fun y e=>by cases e)
 have hg:=(g0.trans g1).trans g2
 refine ⟨⟨L.set i (rx q a n c b m d),⟨?_,l2⟩,?_,fun x hx=>?_⟩,hg⟩
 ·rw[ep_ L i _ (by omega),List.length_set]
  exact s2
 ·rw[List.map_set,rx_q,h3]
 ·rcases List.mem_or_eq_of_mem_set hx with hx | rfl
  ·exact⟨Fx.aside (h4 x hx).1 h2 hg,(h4 x hx).2⟩
  ·exact⟨⟨ha.aside h2 hg,hb.aside h2 hg⟩,de_ _ _ _ _ _ _ _⟩
theorem Row.block{w:World}{base:Nat}{e:TypeId}{v:Value}{qs:List Rat}(h:Row w base e v qs):∀k,v.ownBlock=some k→base≤k∧k < w.heap.size:=by
 obtain⟨L,h1,_⟩:=h
 exact h1.1.lt
def LstRow (e9:TypeId) (qs:LR_) (w:World) (e:Ending) (w':World):Prop:=∃v,e=.returned v∧Row w' w.heap.size e9 v qs∧Below w.heap.size w w'
theorem LstRow.out{e9:TypeId}{qs:List Rat}{w w':World}{e:Ending}(h:LstRow e9 qs w e w'):ds_ qs w e w':=by
 obtain⟨v,rfl,h,hb⟩:=h
 obtain⟨a,cap,rfl,h9⟩:=h.out
 exact⟨a,_,cap,rfl,h9,hb⟩
def thinI (N:Int) (L:List Fx):Prop:=∀x∈L,(x.n:Int)≤N∧(x.m:Int)≤N
theorem thinI.out{N:Nat}{L:List Fx}(h:thinI (N:Int) L):thin N L:=fun x hx=>by
 have:=h x hx
 omega
theorem Row.whole{w:World}{base:Nat}{e:TypeId}{v:Value}{T:List Rat}{k:Nat}(h:Row w base e v (T.take k))(hk:T.length=k):Row w base e v T:=by
 rwa [List.take_of_length_le (Nat.le_of_eq hk)] at h
theorem Cop.whole{w:World}{base:Nat}{e:TypeId}{v:Value}{T:List Fx}{k:Nat}(h:Cop w base e v (T.take k))(hk:T.length=k):Cop w base e v T:=by
 rwa [List.take_of_length_le (Nat.le_of_eq hk)] at h
theorem Row.form{w:World}{base:Nat}{e:TypeId}{v:Value}{qs:List Rat}(h:Row w base e v qs)(hn:0 < qs.length):∃g cap,v=.slice (some ⟨g,0,none⟩) qs.length cap∧base≤g∧g < w.heap.size:=by
 obtain⟨L,⟨h1,_⟩,h3,_⟩:=h
 have hL:L.length=qs.length:=by rw[←h3,List.length_map]
 obtain⟨g,cap,h5,h6,h7⟩:=h1.form (by omega)
 exact⟨g,cap,by rw[h5,hL],h6,h7⟩
theorem Row.free{w:World}{base:Nat}{e:TypeId}{g k cap:Nat}{qs:List Rat}(h:Row w base e (.slice (some ⟨g,0,none⟩) k cap) qs)(hk:k=qs.length){i:Nat}(hi:i < qs.length) :
 ∃x y z,(w.cell? ⟨g,i * 3,none⟩=some x∧w.cell? ⟨g,i * 3+1,none⟩=some y∧w.cell? ⟨g,i * 3+2,none⟩=some z)∧w.frozen? ⟨g,i * 3,none⟩=false∧w.frozen? ⟨g,i * 3+1,none⟩=false∧w.frozen? ⟨g,i * 3+2,none⟩=false:=by
 obtain⟨L,⟨h1,_⟩,h3,_⟩:=h
 have hL:L.length=qs.length:=by rw[←h3,List.length_map]
 have hkL:k=L.length:=hk.trans hL.symm
 subst hkL
 obtain⟨c0,c1,c2⟩:=e1_ L i (by omega)
 have p0:=h1.cellAt (i * 3) (by omega)
 have p1:=h1.cellAt (i * 3+1) (by omega)
 have p2:=h1.cellAt (i * 3+2) (by omega)
 rw[c0] at p0;rw[c1] at p1;rw[c2] at p2
 exact⟨_,_,_,⟨p0,p1,p2⟩,h1.frozenAt _,h1.frozenAt _,h1.frozenAt _⟩
theorem iv_{w:World}{b b':Nat}{e:TypeId}{v:Value}{qs:List Rat}(h:Row w b e v qs)(hb:b'≤b):Row w b' e v qs:=by
 obtain⟨L,⟨⟨h1,h2⟩,h3⟩,h4⟩:=h
 refine ⟨L,⟨⟨h1,?_⟩,h3⟩,h4⟩
 rcases h2 with h2 | ⟨g,cap,cur,e1,hg,h5⟩
 ·exact .inl h2
 ·exact .inr ⟨g,cap,cur,e1,Nat.le_trans hb hg,h5⟩
theorem h7_{T:Nat}:∀(n:Nat) (f:Nat→Rat),(∀i,i < n→qlen (f i)≤T)→qlen (b5_ n f)≤1+n * (T+2)
 | 0,_,_=>by
   show qlen 0≤_
   rw[c9_];omega
 | n+1,f,h=>by
   have h1:=h7_ n f (fun i hi=>h i (by omega))
   have h2:=h n (by omega)
   have h3:=eu_ (b5_ n f) (f n)
   show qlen (b5_ n f+f n)≤_
   rw[Nat.add_mul];omega
theorem gc_{n m:Nat}{f:Nat→Rat}(hm:m≤n)(h:∀i,m≤i→i < n→f i=0):b5_ n f=b5_ m f:=by
 induction n with
 | zero=>rw[show m=0 by omega]
 | succ n ih=>
   by_cases hmn:m=n+1
   ·rw[hmn]
   ·show b5_ n f+f n=_
    rw[ih (by omega) (fun i h1 h2=>h i h1 (by omega)),h n (by omega) (by omega)];grind
theorem ld_:∀(n:Nat) (f:Nat→Rat),b5_ (n+1) f=b5_ (n+1) (fun i=>f (n - i))
 | 0,f=>rfl
 | n+1,f=>by
   rw[fk_ (n+1) (fun i=>f (n+1 - i))]
   show b5_ (n+1) f+f (n+1)=f (n+1 - 0)+_
   rw[bh_ (n:=n+1) (f:=fun k=>f (n+1 - (k+1))) (g:=fun k=>f (n - k)) (fun k _=>by rw[Nat.add_sub_add_right]),←ld_ n f,Nat.sub_zero];grind
theorem kf_(a b:LR_):peq (pmul a b) (pmul b a):=fun n=>by
 rw[cp_,cp_,ld_ n (fun i=>co b i * co a (n - i))]
 exact bh_ fun i hi=>by rw[show n - (n - i)=i by omega,Rat.mul_comm]
theorem c0_{A:Nat}{a:List Rat}(hA:1≤A)(h:∀q∈a,qlen q≤A)(i:Nat):qlen (co a i)≤A:=by
 rcases Nat.lt_or_ge i a.length with h1 | h1
 ·exact h _ (l6_ h1)
 ·rw[dv_ h1,c9_];exact hA
theorem b7_{K:Nat}{a:List Rat}(h:∀i,qlen (co a i)≤K):∀q∈a,qlen q≤K:=fun q hq=>by
 obtain⟨i,hi,rfl⟩:=List.getElem_of_mem hq
 have:=h i
 unfold co at this
 rwa [List.getD_eq_getElem?_getD,List.getElem?_eq_getElem hi] at this
theorem ev_(a:LR_)(i:Nat):co (ai_ a) i=co a i:=au_ a i
theorem ko_{A B:Nat}{a b:List Rat}(hA:1≤A)(hB:1≤B)(ha:∀q∈a,qlen q≤A)(hb:∀q∈b,qlen q≤B):∀q∈ai_ (pmul a b),qlen q≤1+a.length * (A+B+3):=b7_ fun i=>by
 rw[ev_,cp_]
 rcases Nat.lt_or_ge i a.length with h | h
 ·refine Nat.le_trans (h7_ (T:=A+B+1) (i+1) _ (fun k _=>Nat.le_trans (ch_ _ _) (Nat.add_le_add_right (Nat.add_le_add (c0_ hA ha k) (c0_ hB hb _)) 1))) ?_
  exact Nat.add_le_add_left (Nat.mul_le_mul_right _ h) 1
 ·rw[gc_ (m:=a.length) (by omega) (fun k h1 _=>by rw[dv_ h1];grind)]
  exact h7_ (T:=A+B+1) _ _ (fun k _=>Nat.le_trans (ch_ _ _) (Nat.add_le_add_right (Nat.add_le_add (c0_ hA ha k) (c0_ hB hb _)) 1))
theorem c7_:∀a b:LR_,(pmul a b).length≤a.length+b.length
 | [],b=>by rw[pmul];simp
 | x :: a,b=>by
   have h:=c7_ a b
   have h2:∀c d:LR_,(padd c d).length≤max c.length d.length:=by
    intro c
    induction c with
    | nil=>intro d;rw[padd];simp
    | cons y c ih=>
      intro d
      cases d with
      | nil=>
        rw[padd]
        ·simp
        ·simp
      | cons z d=>
        have:=ih d
        rw[padd,List.length_cons,List.length_cons,List.length_cons];omega
   rw[pmul]
   refine Nat.le_trans (h2 _ _) ?_
   rw[a5_,List.length_cons,List.length_cons];omega
theorem jd_:∀c d:LR_,(padd c d).length≤max c.length d.length:=by
 intro c
 induction c with
 | nil=>intro d;rw[padd];simp
 | cons y c ih=>
   intro d
   cases d with
   | nil=>
     rw[padd]
     ·simp
     ·simp
   | cons z d=>
     have:=ih d
     rw[padd,List.length_cons,List.length_cons,List.length_cons];omega
theorem a1_{a:List Rat}(h:ai_ a=a):plen a=a.length:=by unfold plen;rw[h]
def LstDiv (A B:LR_) (K:Nat) (w:World) (e:Ending) (w':World):Prop:=∃(a:OA_) (n c:Nat) (q:LR_) (b:OA_) (m d:Nat) (r:LR_),e=.returned (.tuple #[.slice a n c,.slice b m d,.bool true])∧Rw w' a n c q∧Rw w' b m d r∧isDiv A B q r∧ai_ q=q∧ai_ r=r∧(∀x∈q,qlen x≤K)∧(∀x∈r,qlen x≤K)∧Below w.heap.size w w'
theorem pigeon:∀(K:Nat) (f:Nat→Nat),(∀c,c≤K→f c < K)→∃c d,c < d∧d≤K∧f c=f d
 | 0,f,h=>absurd (h 0 (Nat.le_refl 0)) (Nat.not_lt_zero _)
 | K+1,f,h=>by
   by_cases hx:∃c,c≤K∧f c=f (K+1)
   ·obtain⟨c,h1,h2⟩:=hx
    exact⟨c,K+1,by omega,Nat.le_refl _,h2⟩
   ·have hn:∀c,c≤K→f c≠f (K+1):=fun c h1 h2=>hx ⟨c,h1,h2⟩
    have hl:=h (K+1) (Nat.le_refl _)
    obtain⟨c,d,h1,h2,h3⟩:=pigeon K (fun c=>if f c=K then f (K+1) else f c) (fun c hc=>by
     have h4:=h c (by omega)
     have h5:=hn c hc
     show (if f c=K then f (K+1) else f c) < K
     split <;> omega)
    have e1:=hn c (by omega)
    have e2:=hn d h2
    refine ⟨c,d,h1,by omega,?_⟩
    replace h3:(if f c=K then f (K+1) else f c)=(if f d=K then f (K+1) else f d):=h3
    split at h3 <;> split at h3 <;> omega
def encN (b:Nat):Nat→(Nat→Nat)→Nat
 | 0,_=>0
 | n+1,e=>e 0+b * encN b n (fun j=>e (j+1))
theorem encN_lt{b:Nat}:∀{n:Nat} {e:Nat→Nat},(∀j,j < n→e j < b)→encN b n e < b ^ n
 | 0,_,_=>Nat.one_pos
 | n+1,e,h=>by
   have h1:=h 0 (by omega)
   have h2:=encN_lt (b:=b) (n:=n) (e:=fun j=>e (j+1)) (fun j hj=>h (j+1) (by omega))
   show e 0+b * encN b n (fun j=>e (j+1)) < b ^ (n+1)
   rw[Nat.pow_succ,Nat.mul_comm (b ^ n) b]
   have h3:b * (encN b n (fun j=>e (j+1))+1)≤b * b ^ n:=Nat.mul_le_mul_left b h2
   rw[Nat.mul_add,Nat.mul_one] at h3
   omega
theorem ps_{b:Nat}:∀{n:Nat} {e d:Nat→Nat},(∀j,j < n→e j < b)→(∀j,j < n→d j < b)→encN b n e=encN b n d→∀j,j < n→e j=d j
 | 0,_,_,_,_,_,j,hj=>absurd hj (Nat.not_lt_zero j)
 | n+1,e,d,he,hd,h,j,hj=>by
   have h1:=he 0 (by omega)
   have h2:=hd 0 (by omega)
   have h3:e 0+b * encN b n (fun j=>e (j+1))=d 0+b * encN b n (fun j=>d (j+1)):=h
   have h4:e 0=d 0:=by
    have:=congrArg (· % b) h3
    simp only[Nat.add_mul_mod_self_left] at this
    rwa [Nat.mod_eq_of_lt h1,Nat.mod_eq_of_lt h2] at this
   have h5:encN b n (fun j=>e (j+1))=encN b n (fun j=>d (j+1)):=Nat.eq_of_mul_eq_mul_left (Nat.lt_of_le_of_lt (Nat.zero_le _) h1) (by omega)
   cases j with
   | zero=>exact h4
   | succ j=>exact ps_ (fun j hj=>he (j+1) (by omega)) (fun j hj=>hd (j+1) (by omega)) h5 j (by omega)
theorem lr_{b:Nat}:∀{n:Nat} {e d:Nat→Nat},(∀j,j < n→e j=d j)→encN b n e=encN b n d
 | 0,_,_,_=>rfl
 | n+1,e,d,h=>by
   show e 0+b * encN b n (fun j=>e (j+1))=d 0+b * encN b n (fun j=>d (j+1))
   rw[h 0 (by omega),lr_ (n:=n) (fun j hj=>h (j+1) (by omega))]
def digN (b c j:Nat):Nat:=c / b ^ j % b
theorem ms_{b:Nat}:∀(n c:Nat),c < b ^ n→encN b n (digN b c)=c
 | 0,c,h=>by
   have:c=0:=by simpa using h
   rw[this];rfl
 | n+1,c,h=>by
   have hb:0 < b:=by
    rcases Nat.eq_zero_or_pos b with e | e
    ·rw[e,Nat.pow_succ,Nat.mul_zero] at h;omega
    ·exact e
   have h1:c / b < b ^ n:=by
    rw[Nat.div_lt_iff_lt_mul hb]
    rwa [Nat.pow_succ] at h
   have h2:=ms_ n (c / b) h1
   have h3:(fun j=>digN b c (j+1))=digN b (c / b):=by
    funext j
    show c / b ^ (j+1) % b=c / b / b ^ j % b
    rw[Nat.div_div_eq_div_mul,Nat.pow_succ,Nat.mul_comm]
   show digN b c 0+b * encN b n (fun j=>digN b c (j+1))=c
   rw[h3,h2]
   show c / b ^ 0 % b+b * (c / b)=c
   rw[Nat.pow_zero,Nat.div_one]
   exact Nat.mod_add_div c b
def isum:Nat→(Nat→Int)→Int
 | 0,_=>0
 | n+1,f=>isum n f+f n
theorem pj_:∀(n:Nat) (f g:Nat→Int),isum n (fun j=>f j - g j)=isum n f - isum n g
 | 0,_,_=>rfl
 | n+1,f,g=>by
   show isum n (fun j=>f j - g j)+(f n - g n)=(isum n f+f n) - (isum n g+g n)
   rw[pj_ n f g];omega
theorem isum_le:∀{n:Nat} {f:Nat→Int} {B:Nat},(∀j,j < n→(f j).natAbs≤B)→(isum n f).natAbs≤n * B
 | 0,_,_,_=>by show (0:Int).natAbs≤_;simp
 | n+1,f,B,h=>by
   have h1:=isum_le (n:=n) (f:=f) (B:=B) (fun j hj=>h j (by omega))
   have h2:=h n (by omega)
   have h3:(isum n f+f n).natAbs≤(isum n f).natAbs+(f n).natAbs:=Int.natAbs_add_le _ _
   show (isum n f+f n).natAbs≤(n+1) * B
   rw[Nat.add_mul];omega
theorem k6_:∀{n:Nat} {f g:Nat→Int},(∀j,j < n→f j=g j)→isum n f=isum n g
 | 0,_,_,_=>rfl
 | n+1,f,g,h=>by
   show isum n f+f n=isum n g+g n
   rw[k6_ (n:=n) (fun j hj=>h j (by omega)),h n (by omega)]
theorem o8_(Y X c M:Nat)(hX:c ^ M≤X)(hY:Y≤c * (X+1)):Y ^ M < (X+1) ^ (M+1):=by
 have h1:Y ^ M≤(c * (X+1)) ^ M:=Nat.pow_le_pow_left hY M
 rw[Nat.mul_pow] at h1
 have h2:c ^ M * (X+1) ^ M≤X * (X+1) ^ M:=Nat.mul_le_mul_right _ hX
 have h3:X * (X+1) ^ M < (X+1) ^ (M+1):=by
  rw[Nat.pow_succ,Nat.mul_comm ((X+1) ^ M)]
  exact Nat.mul_lt_mul_of_pos_right (Nat.lt_succ_self X) (Nat.pow_pos (Nat.succ_pos X))
 omega
theorem siegel(M H:Nat)(a:Nat→Nat→Int)(ha:∀i j,i < M→j < M+1→(a i j).natAbs≤H) :
 ∃x:Nat→Int,(∃j,j < M+1∧x j≠0)∧(∀j,j < M+1→(x j).natAbs≤(2 * ((M+1) * H)+1) ^ M)∧∀i,i < M→isum (M+1) (fun j=>a i j * x j)=0:=by
 obtain⟨X,hX⟩:∃X,(2 * ((M+1) * H)+1) ^ M=X:=⟨_,rfl⟩
 obtain⟨U,hU⟩:∃U,(M+1) * (H * X)=U:=⟨_,rfl⟩
 have hY:2 * U+1≤(2 * ((M+1) * H)+1) * (X+1):=by
  have h1:2 * U=2 * ((M+1) * H) * X:=by rw[←hU,Nat.mul_assoc,Nat.mul_assoc]
  rw[Nat.add_mul,Nat.mul_add,Nat.mul_one,Nat.one_mul]
  omega
 have hroom:=o8_ (2 * U+1) X _ M (Nat.le_of_eq hX) hY
 have hd:∀c j,digN (X+1) c j≤X:=fun c j=>Nat.le_of_lt_succ (Nat.mod_lt _ (Nat.succ_pos X))
 let v:Nat→Nat→Int:=fun c i=>isum (M+1) (fun j=>a i j * (digN (X+1) c j:Int))
 have hv:∀c i,i < M→(v c i).natAbs≤U:=fun c i hi=>by
  rw[←hU]
  refine isum_le (fun j hj=>?_)
  rw[Int.natAbs_mul,Int.natAbs_natCast]
  exact Nat.mul_le_mul (ha i j hi hj) (hd c j)
 let e:Nat→Nat→Nat:=fun c i=>(v c i+(U:Int)).toNat
 have he:∀c i,i < M→e c i < 2 * U+1:=fun c i hi=>by
  have:=hv c i hi
  show (v c i+(U:Int)).toNat < _
  omega
 obtain⟨c,d,h1,h2,h3⟩:=pigeon ((2 * U+1) ^ M) (fun c=>encN (2 * U+1) M (e c)) (fun c _=>encN_lt (he c))
 have h4:=ps_ (he c) (he d) h3
 have h5:∀i,i < M→v c i=v d i:=fun i hi=>by
  have g1:=h4 i hi
  have g2:=hv c i hi
  have g3:=hv d i hi
  have g4:(v c i+(U:Int)).toNat=(v d i+(U:Int)).toNat:=g1
  omega
 refine ⟨fun j=>(digN (X+1) c j:Int) - (digN (X+1) d j:Int),?_,fun j _=>?_,fun i hi=>?_⟩
 ·by_cases hx:∃j,j < M+1∧(digN (X+1) c j:Int) - (digN (X+1) d j:Int)≠0
  ·exact hx
  ·have h6:∀j,j < M+1→digN (X+1) c j=digN (X+1) d j:=fun j hj=>by
    by_cases h7:(digN (X+1) c j:Int) - (digN (X+1) d j:Int)=0
    ·omega
    ·exact absurd ⟨j,hj,h7⟩ hx
   have h8:encN (X+1) (M+1) (digN (X+1) c)=encN (X+1) (M+1) (digN (X+1) d):=lr_ h6
   rw[ms_ _ _ (by omega),ms_ _ _ (by omega)] at h8
   omega
 ·have:=hd c j
  have:=hd d j
  show ((digN (X+1) c j:Int) - (digN (X+1) d j:Int)).natAbs≤_
  rw[hX];omega
 ·have h6:=h5 i hi
  rw[k6_ (g:=fun j=>a i j * (digN (X+1) c j:Int) - a i j * (digN (X+1) d j:Int)) (fun j _=>Int.mul_sub _ _ _),pj_]
  show v c i - v d i=0
  omega
theorem nat_far:∀bad:LR_,∃n:Nat,∀m:Nat,n≤m→((m:Nat):Rat) ∉ bad
 | [] => ⟨0,fun m _=>by simp⟩
 | b :: bad=>by
   obtain⟨n,hn⟩:=nat_far bad
   by_cases hb:∃k:Nat,((k:Nat):Rat)=b
   ·obtain⟨k,hk⟩:=hb
    refine ⟨max n (k+1),fun m hm h=>?_⟩
    rcases List.mem_cons.1 h with h | h
    ·have h2:((m:Nat):Rat)=((k:Nat):Rat):=by rw[h,hk]
     have:=Rat.natCast_inj.1 h2
     omega
    ·exact hn m (by omega) h
   ·refine ⟨n,fun m hm h=>?_⟩
    rcases List.mem_cons.1 h with h | h
    ·exact hb ⟨m,h⟩
    ·exact hn m hm h
def syn (a:Rat):List Rat→List Rat
 | [] => []
 | _ :: l=>padd l (ag_ a (syn a l))
theorem lh_(a:Rat):∀l:LR_,(syn a l).length≤l.length - 1
 | [] => Nat.le_refl _
 | c :: l=>by
   have h:=lh_ a l
   refine Nat.le_trans (jd_ _ _) ?_
   rw[a5_,List.length_cons];omega
theorem lv_(a x:Rat):∀l:LR_,al_ x l=al_ a l+(x - a) * al_ x (syn a l)
 | [] => by show (0:Rat)=0+(x - a) * 0;grind
 | c :: l=>by
   have h:=lv_ a x l
   show c+x * al_ x l=c+a * al_ a l+(x - a) * al_ x (padd l (ag_ a (syn a l)))
   rw[av_,an_]
   grind
theorem pk_:∀(n:Nat) (l bad:LR_),l.length≤n→(∀x,x ∉ bad→al_ x l=0)→∀x,al_ x l=0
 | 0,l,_,hl,_,x=>by
   rw[List.eq_nil_of_length_eq_zero (Nat.le_zero.1 hl)];rfl
 | n+1,l,bad,hl,h,x=>by
   obtain⟨m,hm⟩:=nat_far bad
   have ha:=hm m (Nat.le_refl m)
   have h0:=h _ ha
   have hs:=pk_ n (syn ((m:Nat):Rat) l) (((m:Nat):Rat) :: bad) (by have:=lh_ ((m:Nat):Rat) l;omega) (fun y hy=>by
    rw[List.mem_cons] at hy
    have h1:=lv_ ((m:Nat):Rat) y l
    rw[h0,h y (fun e=>hy (.inr e))] at h1
    have h2:y - ((m:Nat):Rat)≠0:=fun e=>hy (.inl (by grind))
    have h3:(y - ((m:Nat):Rat)) * al_ y (syn ((m:Nat):Rat) l)=0:=by grind
    rcases Rat.mul_eq_zero.1 h3 with h4 | h4
    ·exact absurd h4 h2
    ·exact h4)
   rw[lv_ ((m:Nat):Rat) x l,h0,hs x];grind
theorem zero_co:∀(l:LR_),(∀x,al_ x l=0)→∀i,co l i=0
 | [],_,i=>rfl
 | c :: l,h,i=>by
   have h0:c=0:=by
    have h1:c+0 * al_ 0 l=0:=h 0
    grind
   have hl:=pk_ l.length l [0] (Nat.le_refl _) (fun x hx=>by
    have hx0:x≠0:=fun e=>hx (by rw[e];exact List.mem_cons_self ..)
    have h1:c+x * al_ x l=0:=h x
    have h2:x * al_ x l=0:=by grind
    rcases Rat.mul_eq_zero.1 h2 with h3 | h3
    ·exact absurd h3 hx0
    ·exact h3)
   cases i with
   | zero=>exact h0
   | succ i=>rw[bz_];exact zero_co l hl i
theorem b2_(x:Rat)(a b:LR_):al_ x (psub a b)=al_ x a - al_ x b:=by
 unfold psub
 rw[av_,an_];grind
theorem ao_{a b:List Rat}(h:∀x,al_ x a=al_ x b):peq a b:=fun i=>by
 have h1:=zero_co (psub a b) (fun x=>by rw[b2_,h x];grind) i
 rw[dj_] at h1
 grind
theorem c8_{a b:List Rat}(ha:plen a≠0)(hb:plen b≠0):plen (pmul a b)=plen a+plen b - 1:=by
 have:=(em_ (a:=a) (b:=b) (m:=plen a - 1) (n:=plen b - 1) (by omega) (by omega)).1
 omega
theorem bx_(a b:LR_):plen (pmul a b)≤plen a+plen b - 1:=by
 by_cases ha:plen a=0
 ·have h:plen (pmul a b)=0:=am_ (ax_ (cm_ ha) (peq.refl b))
  omega
 ·by_cases hb:plen b=0
  ·have h:plen (pmul a b)=0:=am_ ((ax_ (peq.refl a) (cm_ hb)).trans (dl_ a))
   omega
  ·exact Nat.le_of_eq (c8_ ha hb)
def Ints (a:LR_) (H:Nat):Prop:=∀i,∃z:Int,co a i=(z:Rat)∧z.natAbs≤H
theorem Ints.congr{a b:List Rat}{H:Nat}(h:Ints a H)(e:peq a b):Ints b H:=fun i=>by
 obtain⟨z,h1,h2⟩:=h i
 exact⟨z,by rw[←e i];exact h1,h2⟩
theorem Ints.mono{a:List Rat}{H K:Nat}(h:Ints a H)(e:H≤K):Ints a K:=fun i=>by
 obtain⟨z,h1,h2⟩:=h i
 exact⟨z,h1,Nat.le_trans h2 e⟩
theorem Ints.neg{a:List Rat}{H:Nat}{c:Rat}(h:Ints (ag_ c a) H):Ints (ag_ (-c) a) H:=fun i=>by
 obtain⟨z,h1,h2⟩:=h i
 refine ⟨-z,?_,by omega⟩
 rw[ah_] at h1 ⊢
 rw[Rat.intCast_neg,←h1];grind
theorem j4_:∀(n:Nat) (f:Nat→Int),((isum n f:Int):Rat)=b5_ n (fun j=>((f j:Int):Rat))
 | 0,_=>rfl
 | n+1,f=>by
   show ((isum n f+f n:Int):Rat)=b5_ n (fun j=>((f j:Int):Rat))+((f n:Int):Rat)
   rw[Rat.intCast_add,j4_ n f]
theorem lf_(p:Nat):∀(q:Nat) (f:Nat→Int),isum (p+q) f=isum p f+isum q (fun j=>f (p+j))
 | 0,f=>by show isum p f=isum p f+0;omega
 | q+1,f=>by
   show isum (p+q) f+f (p+q)=isum p f+(isum q (fun j=>f (p+j))+f (p+q))
   rw[lf_ p q f];omega
theorem iy_(n:Nat)(f:Nat→Rat)(i:Nat):co ((List.range n).map f) i=if i < n then f i else 0:=by
 split
 ·rename_i h
  unfold co
  rw[List.getD_eq_getElem?_getD,List.getElem?_map,List.getElem?_range h];rfl
 ·exact dv_ (by simp;omega)
theorem ls_(p:Nat)(u:Nat→Rat)(F:LR_)(k:Nat):co (pmul ((List.range p).map u) F) k=b5_ p (fun j=>if j≤k then u j * co F (k - j) else 0):=by
 rw[cp_]
 let f:Nat→Rat:=fun j=>if j≤k then co ((List.range p).map u) j * co F (k - j) else 0
 have h1:b5_ (k+1) (fun i=>co ((List.range p).map u) i * co F (k - i))=b5_ (k+1) f:=bh_ fun i hi=>by
  show _=if i≤k then _ else _
  rw[if_pos (by omega)]
 have h2:b5_ (max (k+1) p) f=b5_ (k+1) f:=gc_ (by omega) fun i h3 _=>by
  show (if i≤k then _ else _)=_
  rw[if_neg (by omega)]
 have h3:b5_ (max (k+1) p) f=b5_ p f:=gc_ (by omega) fun i h3 _=>by
  show (if i≤k then co ((List.range p).map u) i * co F (k - i) else 0)=_
  rw[iy_]
  split
  ·rw[if_neg (by omega),Rat.zero_mul]
  ·rfl
 rw[h1,←h2,h3]
 refine bh_ fun i hi=>?_
 show (if i≤k then co ((List.range p).map u) i * co F (k - i) else 0)=_
 rw[iy_,if_pos hi]
theorem kx_{F E P Q:List Rat}{p q H D0:Nat}(hF:Ints F H)(hE:Ints E H)(hdF:plen F≤D0+(q+1))(hdE:plen E≤D0+p)(hQ:plen Q=q+1)
 (hcop:∃s t,peq (padd (pmul s P) (pmul t Q)) [1])
 (hC:∀U V:LR_,U.length≤p→V.length≤q+1→(∀k,D0≤k→co (pmul U F) k+co (pmul V E) k=0)→peq (pmul U Q) (pmul V P)) :
 ∃(U V:LR_) (k:Rat),k≠0∧Ints U ((2 * ((p+q+1) * H)+1) ^ (p+q))∧Ints V ((2 * ((p+q+1) * H)+1) ^ (p+q))∧peq U (ag_ k P)∧peq V (ag_ k Q)∧U.length≤p∧V.length≤q+1:=by
 let fz:Nat→Int:=fun i=>Classical.choose (hF i)
 have hfz:∀i,co F i=(fz i:Rat)∧(fz i).natAbs≤H:=fun i=>Classical.choose_spec (hF i)
 let ez:Nat→Int:=fun i=>Classical.choose (hE i)
 have hez:∀i,co E i=(ez i:Rat)∧(ez i).natAbs≤H:=fun i=>Classical.choose_spec (hE i)
 obtain⟨x,⟨j0,hj0,hj1⟩,hxX,hx0⟩:=siegel (p+q) H (fun i j=>if j < p then (if j≤D0+i then fz (D0+i - j) else 0) else (if j - p≤D0+i then ez (D0+i - (j - p)) else 0)) (fun i j _ _=>by
  split
  ·split
   ·exact (hfz _).2
   ·exact Nat.zero_le _
  ·split
   ·exact (hez _).2
   ·exact Nat.zero_le _)
 obtain⟨U,hU⟩:∃U,(List.range p).map (fun j=>((x j:Int):Rat))=U:=⟨_,rfl⟩
 obtain⟨V,hV⟩:∃V,(List.range (q+1)).map (fun j=>((x (p+j):Int):Rat))=V:=⟨_,rfl⟩
 have hUl:U.length≤p:=by rw[←hU];simp
 have hVl:V.length≤q+1:=by rw[←hV];simp
 have hUc:∀i,co U i=if i < p then ((x i:Int):Rat) else 0:=fun i=>by rw[←hU,iy_]
 have hVc:∀i,co V i=if i < q+1 then ((x (p+i):Int):Rat) else 0:=fun i=>by rw[←hV,iy_]
 have hUI:Ints U ((2 * ((p+q+1) * H)+1) ^ (p+q)):=fun i=>by
  rw[hUc]
  by_cases hi:i < p
  ·rw[if_pos hi];exact⟨x i,rfl,hxX i (by omega)⟩
  ·rw[if_neg hi];exact⟨0,rfl,Nat.zero_le _⟩
 have hVI:Ints V ((2 * ((p+q+1) * H)+1) ^ (p+q)):=fun i=>by
  rw[hVc]
  by_cases hi:i < q+1
  ·rw[if_pos hi];exact⟨x (p+i),rfl,hxX (p+i) (by omega)⟩
  ·rw[if_neg hi];exact⟨0,rfl,Nat.zero_le _⟩
 have hvan:∀k,D0≤k→co (pmul U F) k+co (pmul V E) k=0:=fun k hk=>by
  by_cases hM:k < D0+(p+q)
  ·obtain⟨i,hi⟩:∃i,D0+i=k:=⟨k - D0,by omega⟩
   have h1:=hx0 i (by omega)
   have h2:((isum (p+q+1) _:Int):Rat)=((0:Int):Rat):=congrArg (fun z:Int=>(z:Rat)) h1
   rw[show p+q+1=p+(q+1) by omega,lf_,Rat.intCast_add,j4_,j4_] at h2
   rw[←hU,←hV,ls_,ls_]
   refine Eq.trans ?_ (h2.trans rfl)
   congr 1
   ·refine bh_ fun j hj=>?_
    rw[if_pos hj,hi]
    split
    ·rw[(hfz (k - j)).1,Rat.intCast_mul,Rat.mul_comm]
    ·rw[Int.zero_mul];rfl
   ·refine bh_ fun j _=>?_
    rw[if_neg (show ¬p+j < p by omega),hi,Nat.add_sub_cancel_left]
    split
    ·rw[(hez (k - j)).1,Rat.intCast_mul,Rat.mul_comm]
    ·rw[Int.zero_mul];rfl
  ·have h1:=bx_ U F
   have h2:=bx_ V E
   have h3:=a6_ U
   have h4:=a6_ V
   rw[cc_ (a:=pmul U F) (by omega),cc_ (a:=pmul V E) (by omega)];grind
 have hUV:=hC U V hUl hVl hvan
 obtain⟨s,t,hst⟩:=hcop
 obtain⟨K,hK⟩:∃K,padd (pmul s U) (pmul t V)=K:=⟨_,rfl⟩
 have hev:∀y,al_ y s * al_ y P+al_ y t * al_ y Q=1:=fun y=>by
  have h:=ak_ y hst
  rw[av_,ac_,ac_] at h
  have h1:al_ y [1]=1:=by show (1:Rat)+y * 0=1;grind
  rw[h1] at h;exact h
 have hev2:∀y,al_ y U * al_ y Q=al_ y V * al_ y P:=fun y=>by
  have h:=ak_ y hUV
  rwa [ac_,ac_] at h
 have hUK:peq U (pmul P K):=ao_ fun y=>by
  have h1:=hev y
  have h2:=hev2 y
  rw[←hK,ac_,av_,ac_,ac_];grind
 have hVK:peq V (pmul Q K):=ao_ fun y=>by
  have h1:=hev y
  have h2:=hev2 y
  rw[←hK,ac_,av_,ac_,ac_];grind
 have hK0:plen K≠0:=fun e=>by
  have hz:∀i,co U i=0:=fun i=>by rw[hUK i,(ax_ (peq.refl P) (cm_ e)) i,dl_ P i,d3_]
  have hz2:∀i,co V i=0:=fun i=>by rw[hVK i,(ax_ (peq.refl Q) (cm_ e)) i,dl_ Q i,d3_]
  by_cases hjp:j0 < p
  ·have h1:=hz j0
   rw[hUc,if_pos hjp] at h1
   exact hj1 (Rat.intCast_inj.1 h1)
  ·have h1:=hz2 (j0 - p)
   rw[hVc,if_pos (by omega),show p+(j0 - p)=j0 by omega] at h1
   exact hj1 (Rat.intCast_inj.1 h1)
 have hK1:plen K=1:=by
  have h1:=am_ hVK
  rw[c8_ (by omega) hK0,hQ] at h1
  have h2:=a6_ V
  omega
 obtain⟨k,hk⟩:∃k,co K 0=k:=⟨_,rfl⟩
 have hk0:k≠0:=hk▸dm_ hK1
 have hKk:peq K [k]:=fun i=>by
  cases i with
  | zero=>exact hk
  | succ i=>rw[cc_ (a:=K) (by omega),bz_,d3_]
 have hke:∀y,al_ y K=k:=fun y=>by
  rw[ak_ y hKk]
  show k+y * 0=k
  grind
 refine ⟨U,V,k,hk0,hUI,hVI,hUK.trans (ao_ fun y=>?_),hVK.trans (ao_ fun y=>?_),hUl,hVl⟩
 ·rw[ac_,an_,hke];grind
 ·rw[ac_,an_,hke];grind
theorem lz_{A B u v G:List Rat}{H:Nat}{c:Rat}(hc:c≠0)(hAI:Ints (ag_ c A) H)(hBI:Ints (ag_ c B) H)(hA:peq A (pmul u G))(hB:peq B (pmul v G))(hG:plen G≠0)(hv:plen v≠0)
 (hcop:∃s t,peq (padd (pmul s u) (pmul t v)) [1]):∃k:Rat,k≠0∧Ints (ag_ k u) ((2 * ((plen u+plen v) * H)+1) ^ (plen u+plen v - 1))∧Ints (ag_ k v) ((2 * ((plen u+plen v) * H)+1) ^ (plen u+plen v - 1)):=by
 obtain⟨q,hq⟩:∃q,plen v=q+1:=⟨plen v - 1,by omega⟩
 have hdB:plen B=plen v+plen G - 1:=by rw[am_ hB,c8_ hv hG]
 have hdA:plen A≤plen u+plen G - 1:=by rw[am_ hA];exact bx_ _ _
 obtain⟨U,V,k,h1,h2,h3,h4,h5,_,_⟩:=kx_ (F:=ag_ c B) (E:=ag_ (-c) A) (P:=u) (Q:=v) (p:=plen u) (q:=q) (D0:=plen G - 1) hBI hAI.neg (by rw[ba_ hc];omega) (by rw[ba_ (by grind)];omega) hq hcop (fun U V _ _ hvan=>by
  obtain⟨W,hW⟩:∃W,psub (pmul U v) (pmul V u)=W:=⟨_,rfl⟩
  have hWG:peq (padd (pmul U (ag_ c B)) (pmul V (ag_ (-c) A))) (ag_ c (pmul W G)):=ao_ fun y=>by
   have e1:=ak_ y hA
   have e2:=ak_ y hB
   rw[ac_] at e1 e2
   rw[av_,ac_,ac_,an_,an_,an_,ac_,←hW,b2_,ac_,ac_,e1,e2];grind
  have hW0:plen W=0:=Classical.byContradiction fun hn=>by
   have g1:=c8_ hn hG
   have g2:=dm_ (a:=pmul W G) (n:=plen W+plen G - 2) (by omega)
   have g3:=hWG (plen W+plen G - 2)
   rw[a4_,hvan _ (by omega),ah_] at g3
   rcases Rat.mul_eq_zero.1 g3.symm with g4 | g4
   ·exact hc g4
   ·exact g2 g4
  intro i
  have g1:=plen_zero.1 hW0 i
  rw[←hW,dj_] at g1
  grind)
 rw[show plen u+q+1=plen u+plen v by omega,show plen u+q=plen u+plen v - 1 by omega] at h2 h3
 exact⟨k,h1,h2.congr h4,h3.congr h5⟩
theorem ju_{a b:List Rat}(h:plen b < plen a):plen (padd a b)=plen a:=by
 have h1:=f1_ a b
 have h2:=dm_ (a:=a) (n:=plen a - 1) (by omega)
 have h3:co (padd a b) (plen a - 1)≠0:=by
  rw[a4_,cc_ (a:=b) (by omega),Rat.add_zero];exact h2
 have:=hy_ h3
 omega
theorem ix_(a:LR_):plen (ag_ (-1) a)=plen a:=ba_ (by decide) a
theorem ke_{a b:List Rat}(h:plen a < plen b):plen (psub a b)=plen b:=by
 have e:peq (psub a b) (padd (ag_ (-1) b) a):=fun i=>by rw[dj_,a4_,ah_];grind
 rw[am_ e,ju_ (by rw[ix_];exact h),ix_]
theorem je_{x y q r:List Rat}(h:isDiv x y q r)(hl:plen y≤plen x):plen q=plen x - plen y+1:=by
 have h2:=h.2
 have hq:plen q≠0:=fun e=>by
  have h3:plen x=plen r:=am_ (h.1.trans (fun i=>by rw[a4_,(ax_ (cm_ e) (peq.refl y)) i];show (0:Rat)+_=_;grind))
  omega
 have h4:=c8_ hq (b:=y) (by omega)
 have h5:=am_ h.1
 rw[ju_ (by omega),h4] at h5
 omega
structure Eu (A B x y:LR_):Prop where
 some:∃(ux vx uy vy:LR_) (e:Rat),e≠0∧peq x (padd (pmul ux A) (pmul vx B))∧peq y (padd (pmul uy A) (pmul vy B))∧peq (psub (pmul ux vy) (pmul uy vx)) [e]∧
  plen vy+plen x=plen A+1∧plen uy+plen x=plen B+1∧plen vx+plen y≤plen A∧plen ux+plen y≤plen B
 less:plen y < plen x
 small:plen x≤plen B
 most:plen B≤plen A
theorem bo_(c x:Rat):al_ x [c]=c:=by show c+x * 0=c;grind
theorem el_{c:Rat}(h:c≠0):plen [c]=1:=by
 have h1:=hy_ (a:=[c]) (n:=0) h
 have h2:=a6_ [c]
 simp at h2;omega
theorem Eu.start{A B q r:List Rat}(hd:isDiv A B q r)(hl:plen B≤plen A):Eu A B B r:=by
 have h2:=hd.2
 have hq:=je_ hd hl
 refine ⟨⟨[],[1],[1],ag_ (-1) q,-1,by decide,ao_ fun x=>?_,ao_ fun x=>?_,ao_ fun x=>?_,?_,?_,?_,?_⟩,h2,Nat.le_refl _,hl⟩
 ·rw[av_,ac_,ac_,bo_];show _=0 * _+_;grind
 ·have:=ak_ x hd.1
  rw[av_,ac_] at this
  rw[av_,ac_,ac_,bo_,an_,this];grind
 ·rw[b2_,ac_,ac_,bo_,bo_];show 0 * _ - _=_;grind
 ·rw[ix_,hq];omega
 ·rw[el_ (by decide)];omega
 ·rw[el_ (by decide)];omega
 ·show 0+_≤_;omega
theorem Eu.step{A B x y q r:List Rat}(h:Eu A B x y)(hd:isDiv x y q r):Eu A B y r:=by
 obtain⟨⟨ux,vx,uy,vy,e,he,h1,h2,h3,h4,h5,h6,h7⟩,hl,hs,hm⟩:=h
 have hr:=hd.2
 have hq:=je_ hd (by omega)
 have gv:=c8_ (a:=q) (b:=vy) (by omega) (by omega)
 have gu:=c8_ (a:=q) (b:=uy) (by omega) (by omega)
 have hv:plen (psub vx (pmul q vy))=plen (pmul q vy):=ke_ (by omega)
 have hu:plen (psub ux (pmul q uy))=plen (pmul q uy):=ke_ (by omega)
 refine ⟨⟨uy,vy,psub ux (pmul q uy),psub vx (pmul q vy),-e,by grind,h2,ao_ fun z=>?_,ao_ fun z=>?_,?_,?_,?_,?_⟩,hr,by omega,hm⟩
 ·have e1:=ak_ z h1
  have e2:=ak_ z h2
  have e3:=ak_ z hd.1
  rw[av_,ac_,ac_] at e1 e2
  rw[av_,ac_] at e3
  rw[av_,ac_,ac_,b2_,b2_,ac_,ac_];grind
 ·have e4:=ak_ z h3
  rw[b2_,ac_,ac_,bo_] at e4
  rw[b2_,ac_,ac_,b2_,b2_,ac_,ac_,bo_];grind
 ·rw[hv,gv];omega
 ·rw[hu,gu];omega
 ·omega
 ·omega
theorem Ints.add{a b:List Rat}{H K:Nat}(h:Ints a H)(k:Ints b K):Ints (padd a b) (H+K):=fun i=>by
 obtain⟨z,h1,h2⟩:=h i
 obtain⟨y,k1,k2⟩:=k i
 refine ⟨z+y,by rw[a4_,h1,k1,Rat.intCast_add],?_⟩
 have:=Int.natAbs_add_le z y
 omega
theorem Ints.scale{b:List Rat}{K X:Nat}{z:Int}(k:Ints b K)(h:z.natAbs≤X):Ints (ag_ (z:Rat) b) (X * K):=fun i=>by
 obtain⟨y,k1,k2⟩:=k i
 refine ⟨z * y,by rw[ah_,k1,Rat.intCast_mul],?_⟩
 rw[Int.natAbs_mul]
 exact Nat.mul_le_mul h k2
theorem Ints.shift{a:List Rat}{H:Nat}(h:Ints a H):Ints (0 :: a) H:=fun i=>by
 cases i with
 | zero=>exact⟨0,rfl,Nat.zero_le _⟩
 | succ i=>rw[bz_];exact h i
theorem Ints.mul{b:List Rat}{K X:Nat}(k:Ints b K):∀{a:List Rat},Ints a X→Ints (pmul a b) (a.length * (X * K))
 | [],_=>fun i=>⟨0,by rw[pmul,d3_];rfl,Nat.zero_le _⟩
 | c :: l,h=>by
   obtain⟨z,h1,h2⟩:=h 0
   have hc:c=(z:Rat):=h1
   have hl:Ints l X:=fun i=>by
    have:=h (i+1)
    rwa [bz_] at this
   have ih:=Ints.mul k hl
   rw[pmul,List.length_cons,Nat.add_mul,Nat.one_mul,Nat.add_comm]
   refine Ints.add ?_ ih.shift
   rw[hc]
   exact k.scale h2
theorem Eu.size{A B x y:List Rat}{c:Rat}{H:Nat}(h:Eu A B x y)(hc:c≠0)(hA:Ints (ag_ c A) H)(hB:Ints (ag_ c B) H) :
 ∃k:Rat,k≠0∧Ints (ag_ k y) ((plen A+plen B) * ((2 * ((plen A+plen B) * H)+1) ^ (plen A+plen B) * H)):=by
 obtain⟨⟨ux,vx,uy,vy,e,he,h1,h2,h3,h4,h5,h6,h7⟩,hl,hs,hm⟩:=h
 obtain⟨q,hq⟩:∃q,plen vy=q+1:=⟨plen vy - 1,by omega⟩
 have hcA:plen (ag_ c A)=plen A:=ba_ hc A
 have hcB:plen (ag_ c B)=plen B:=ba_ hc B
 obtain⟨U,V,k,k0,hU,hV,eU,eV,lU,lV⟩:=kx_ (F:=ag_ c A) (E:=ag_ c B) (P:=uy) (Q:=vy) (p:=plen uy) (q:=q) (D0:=plen x - 1) hA hB (by omega) (by omega) hq
  ⟨ag_ (-(1 / e)) vx,ag_ (1 / e) ux,ao_ fun z=>by
    have e4:=ak_ z h3
    rw[b2_,ac_,ac_,bo_] at e4
    rw[av_,ac_,ac_,an_,an_,bo_]
    have e5:1 / e * e=1:=Rat.div_mul_cancel he
    grind⟩
  (fun U V hU hV hvan=>by
    obtain⟨W,hW⟩:∃W,psub (pmul U vy) (pmul V uy)=W:=⟨_,rfl⟩
    obtain⟨w,hw⟩:∃w,padd (pmul U (ag_ c A)) (pmul V (ag_ c B))=w:=⟨_,rfl⟩
    have hwl:plen w≤plen x - 1:=gb_ fun i hi=>by rw[←hw,a4_];exact hvan i hi
    have e1:peq (pmul W (ag_ c A)) (psub (pmul vy w) (ag_ c (pmul V y))):=ao_ fun z=>by
     have e2:=ak_ z h2
     rw[av_,ac_,ac_] at e2
     rw[←hW,←hw]
     simp only[av_,b2_,ac_,an_]
     rw[e2];grind
    have hW0:plen W=0:=Classical.byContradiction fun hn=>by
     have g1:=c8_ hn (b:=ag_ c A) (by omega)
     have g2:=am_ e1
     have g3:=f1_ (pmul vy w) (ag_ (-1) (ag_ c (pmul V y)))
     have g4:=bx_ vy w
     have g5:=bx_ V y
     have g6:=a6_ V
     have g7:=fg_ c (pmul V y)
     have g8:plen (psub (pmul vy w) (ag_ c (pmul V y)))≤max (plen (pmul vy w)) (plen (ag_ (-1) (ag_ c (pmul V y)))):=g3
     rw[ix_] at g8
     omega
    intro i
    have g1:=plen_zero.1 hW0 i
    rw[←hW,dj_] at g1
    grind)
 have hn:plen uy+q+1≤plen A+plen B:=by omega
 have hX:(2 * ((plen uy+q+1) * H)+1) ^ (plen uy+q)≤(2 * ((plen A+plen B) * H)+1) ^ (plen A+plen B):=
  Nat.le_trans (Nat.pow_le_pow_left (by have:=Nat.mul_le_mul_right H hn;omega) _) (Nat.pow_le_pow_right (by omega) (by omega))
 refine ⟨k * c,fun e0=>?_,?_⟩
 ·rcases Rat.mul_eq_zero.1 e0 with g | g
  ·exact k0 g
  ·exact hc g
 ·have e5:peq (padd (pmul U (ag_ c A)) (pmul V (ag_ c B))) (ag_ (k * c) y):=ao_ fun z=>by
   have e2:=ak_ z h2
   rw[av_,ac_,ac_] at e2
   rw[av_,ac_,ac_,ak_ z eU,ak_ z eV,an_,an_,an_,an_,an_,e2];grind
  refine Ints.congr (Ints.mono ((hA.mul (hU.mono hX)).add (hB.mul (hV.mono hX))) ?_) e5
  rw[←Nat.add_mul]
  exact Nat.mul_le_mul_right _ (by omega)
end Go.Proofs.YtocebjbjnfammaaGreat
