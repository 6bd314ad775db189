import Derived.Test.YtocebjbjnfammaaGreatSG6
import Derived.Test.YtocebjbjnfammaaGreatSG3
import Derived.Test.YtocebjbjnfammaaGreatSG1
set_option maxRecDepth 4096
set_option maxHeartbeats 16000000
namespace Go.Proofs.YtocebjbjnfammaaGreat
open Go.RowKit
theorem hw_{T:Nat}:∀(n:Nat) (f:Nat→Rat),(∀i,i < n→qlen (f i)≤T)→qlen (b5_ n f)≤1+n * (T+2)
 | 0,_,_=>by
   show qlen 0≤_
   rw[cy_];omega
 | n+1,f,h=>by
   have h1:=hw_ n f (fun i hi=>h i (by omega))
   have h2:=h n (by omega)
   have h3:=gz_ (b5_ n f) (f n)
   show qlen (b5_ n f+f n)≤_
   rw[Nat.add_mul];omega
theorem fq_{n m:Nat}{f:Nat→Rat}(hm:m≤n)(h:∀i,m≤i→i < n→f i=0):b5_ n f=b5_ m f:=by
 induction n with
 | zero=>rw[show m=0 by omega]
 | succ n ih=>
   by_cases hmn:m=n+1
   ·rw[hmn]
   ·show b5_ n f+f n=_
    rw[ih (by omega) (fun i h1 h2=>h i h1 (by omega)),h n (by omega) (by omega)];grind
theorem ny_:∀(n:Nat) (f:Nat→Rat),b5_ (n+1) f=b5_ (n+1) (fun i=>f (n - i))
 | 0,f=>rfl
 | n+1,f=>by
   rw[g2_ (n+1) (fun i=>f (n+1 - i))]
   show b5_ (n+1) f+f (n+1)=f (n+1 - 0)+_
   rw[bs_ (n:=n+1) (f:=fun k=>f (n+1 - (k+1))) (g:=fun k=>f (n - k)) (fun k _=>by rw[Nat.add_sub_add_right]),←ny_ n f,Nat.sub_zero];grind
theorem lc_(a b:LR_):peq (pmul a b) (pmul b a):=fun n=>by
 rw[c1_,c1_,ny_ n (fun i=>co b i * co a (n - i))]
 exact bs_ fun i hi=>by rw[show n - (n - i)=i by omega,Rat.mul_comm]
theorem cr_{A:Nat}{a:List Rat}(hA:1≤A)(h:∀q∈a,qlen q≤A)(i:Nat):qlen (co a i)≤A:=by
 rcases Nat.lt_or_ge i a.length with h1 | h1
 ·exact h _ (f4_ h1)
 ·rw[dk_ h1,cy_];exact hA
theorem cg_{K:Nat}{a:List Rat}(h:∀i,qlen (co a i)≤K):∀q∈a,qlen q≤K:=fun q hq=>by
 obtain⟨i,hi,rfl⟩:=List.getElem_of_mem hq
 have:=h i
 unfold co at this
 rwa [List.getD_eq_getElem?_getD,List.getElem?_eq_getElem hi] at this
theorem e5_(a:LR_)(i:Nat):co (ah_ a) i=co a i:=ar_ a i
theorem ee_{A B:Nat}{a b:List Rat}(hA:1≤A)(hB:1≤B)(ha:∀q∈a,qlen q≤A)(hb:∀q∈b,qlen q≤B):∀q∈ah_ (pmul a b),qlen q≤1+a.length * (A+B+3):=cg_ fun i=>by
 rw[e5_,c1_]
 rcases Nat.lt_or_ge i a.length with h | h
 ·refine Nat.le_trans (hw_ (T:=A+B+1) (i+1) _ (fun k _=>Nat.le_trans (cu_ _ _) (Nat.add_le_add_right (Nat.add_le_add (cr_ hA ha k) (cr_ hB hb _)) 1))) ?_
  exact Nat.add_le_add_left (Nat.mul_le_mul_right _ h) 1
 ·rw[fq_ (m:=a.length) (by omega) (fun k h1 _=>by rw[dk_ h1];grind)]
  exact hw_ (T:=A+B+1) _ _ (fun k _=>Nat.le_trans (cu_ _ _) (Nat.add_le_add_right (Nat.add_le_add (cr_ hA ha k) (cr_ hB hb _)) 1))
theorem b1_:∀a b:LR_,(pmul a b).length≤a.length+b.length
 | [],b=>by rw[pmul];simp
 | x :: a,b=>by
   have h:=b1_ a b
   have h2:∀c d:LR_,(padd c d).length≤max c.length d.length:=by
    intro c
    induction c with
    | nil=>intro d;rw[padd];simp
    | cons y c ih=>
      intro d
      cases d with
      | nil=>
        rw[padd]
        ·simp
        ·simp
      | cons z d=>
        have:=ih d
        rw[padd,List.length_cons,List.length_cons,List.length_cons];omega
   rw[pmul]
   refine Nat.le_trans (h2 _ _) ?_
   rw[be_,List.length_cons,List.length_cons];omega
theorem gw_:∀c d:LR_,(padd c d).length≤max c.length d.length:=by
 intro c
 induction c with
 | nil=>intro d;rw[padd];simp
 | cons y c ih=>
   intro d
   cases d with
   | nil=>
     rw[padd]
     ·simp
     ·simp
   | cons z d=>
     have:=ih d
     rw[padd,List.length_cons,List.length_cons,List.length_cons];omega
theorem ay_{a:List Rat}(h:ah_ a=a):plen a=a.length:=by unfold plen;rw[h]
def LstDiv (A B:LR_) (K:Nat) (w:World) (e:Ending) (w':World):Prop:=∃(a:OA_) (n c:Nat) (q:LR_) (b:OA_) (m d:Nat) (r:LR_),e=.returned (.tuple #[.slice a n c,.slice b m d,.bool true])∧Rw w' a n c q∧Rw w' b m d r∧isDiv A B q r∧ah_ q=q∧ah_ r=r∧(∀x∈q,qlen x≤K)∧(∀x∈r,qlen x≤K)∧Below w.heap.size w w'
theorem pigeon:∀(K:Nat) (f:Nat→Nat),(∀c,c≤K→f c < K)→∃c d,c < d∧d≤K∧f c=f d
 | 0,f,h=>absurd (h 0 (Nat.le_refl 0)) (Nat.not_lt_zero _)
 | K+1,f,h=>by
   by_cases hx:∃c,c≤K∧f c=f (K+1)
   ·obtain⟨c,h1,h2⟩:=hx
    exact⟨c,K+1,by omega,Nat.le_refl _,h2⟩
   ·have hn:∀c,c≤K→f c≠f (K+1):=fun c h1 h2=>hx ⟨c,h1,h2⟩
    have hl:=h (K+1) (Nat.le_refl _)
    obtain⟨c,d,h1,h2,h3⟩:=pigeon K (fun c=>if f c=K then f (K+1) else f c) (fun c hc=>by
     have h4:=h c (by omega)
     have h5:=hn c hc
     show (if f c=K then f (K+1) else f c) < K
     split <;> omega)
    have e1:=hn c (by omega)
    have e2:=hn d h2
    refine ⟨c,d,h1,by omega,?_⟩
    replace h3:(if f c=K then f (K+1) else f c)=(if f d=K then f (K+1) else f d):=h3
    split at h3 <;> split at h3 <;> omega
def encN (b:Nat):Nat→(Nat→Nat)→Nat
 | 0,_=>0
 | n+1,e=>e 0+b * encN b n (fun j=>e (j+1))
theorem encN_lt{b:Nat}:∀{n:Nat} {e:Nat→Nat},(∀j,j < n→e j < b)→encN b n e < b ^ n
 | 0,_,_=>Nat.one_pos
 | n+1,e,h=>by
   have h1:=h 0 (by omega)
   have h2:=encN_lt (b:=b) (n:=n) (e:=fun j=>e (j+1)) (fun j hj=>h (j+1) (by omega))
   show e 0+b * encN b n (fun j=>e (j+1)) < b ^ (n+1)
   rw[Nat.pow_succ,Nat.mul_comm (b ^ n) b]
   have h3:b * (encN b n (fun j=>e (j+1))+1)≤b * b ^ n:=Nat.mul_le_mul_left b h2
   rw[Nat.mul_add,Nat.mul_one] at h3
   omega
theorem s3_{b:Nat}:∀{n:Nat} {e d:Nat→Nat},(∀j,j < n→e j < b)→(∀j,j < n→d j < b)→encN b n e=encN b n d→∀j,j < n→e j=d j
 | 0,_,_,_,_,_,j,hj=>absurd hj (Nat.not_lt_zero j)
 | n+1,e,d,he,hd,h,j,hj=>by
   have h1:=he 0 (by omega)
   have h2:=hd 0 (by omega)
   have h3:e 0+b * encN b n (fun j=>e (j+1))=d 0+b * encN b n (fun j=>d (j+1)):=h
   have h4:e 0=d 0:=by
    have:=congrArg (· % b) h3
    simp only[Nat.add_mul_mod_self_left] at this
    rwa [Nat.mod_eq_of_lt h1,Nat.mod_eq_of_lt h2] at this
   have h5:encN b n (fun j=>e (j+1))=encN b n (fun j=>d (j+1)):=Nat.eq_of_mul_eq_mul_left (Nat.lt_of_le_of_lt (Nat.zero_le _) h1) (by omega)
   cases j with
   | zero=>exact h4
   | succ j=>exact s3_ (fun j hj=>he (j+1) (by omega)) (fun j hj=>hd (j+1) (by omega)) h5 j (by omega)
theorem nt_{b:Nat}:∀{n:Nat} {e d:Nat→Nat},(∀j,j < n→e j=d j)→encN b n e=encN b n d
 | 0,_,_,_=>rfl
 | n+1,e,d,h=>by
   show e 0+b * encN b n (fun j=>e (j+1))=d 0+b * encN b n (fun j=>d (j+1))
   rw[h 0 (by omega),nt_ (n:=n) (fun j hj=>h (j+1) (by omega))]
def digN (b c j:Nat):Nat:=c / b ^ j % b
theorem pp_{b:Nat}:∀(n c:Nat),c < b ^ n→encN b n (digN b c)=c
 | 0,c,h=>by
   have:c=0:=by simpa using h
   rw[this];rfl
 | n+1,c,h=>by
   have hb:0 < b:=by
    rcases Nat.eq_zero_or_pos b with e | e
    ·rw[e,Nat.pow_succ,Nat.mul_zero] at h;omega
    ·exact e
   have h1:c / b < b ^ n:=by
    rw[Nat.div_lt_iff_lt_mul hb]
    rwa [Nat.pow_succ] at h
   have h2:=pp_ n (c / b) h1
   have h3:(fun j=>digN b c (j+1))=digN b (c / b):=by
    funext j
    show c / b ^ (j+1) % b=c / b / b ^ j % b
    rw[Nat.div_div_eq_div_mul,Nat.pow_succ,Nat.mul_comm]
   show digN b c 0+b * encN b n (fun j=>digN b c (j+1))=c
   rw[h3,h2]
   show c / b ^ 0 % b+b * (c / b)=c
   rw[Nat.pow_zero,Nat.div_one]
   exact Nat.mod_add_div c b
def isum:Nat→(Nat→Int)→Int
 | 0,_=>0
 | n+1,f=>isum n f+f n
theorem s4_:∀(n:Nat) (f g:Nat→Int),isum n (fun j=>f j - g j)=isum n f - isum n g
 | 0,_,_=>rfl
 | n+1,f,g=>by
   show isum n (fun j=>f j - g j)+(f n - g n)=(isum n f+f n) - (isum n g+g n)
   rw[s4_ n f g];omega
theorem isum_le:∀{n:Nat} {f:Nat→Int} {B:Nat},(∀j,j < n→(f j).natAbs≤B)→(isum n f).natAbs≤n * B
 | 0,_,_,_=>by show (0:Int).natAbs≤_;simp
 | n+1,f,B,h=>by
   have h1:=isum_le (n:=n) (f:=f) (B:=B) (fun j hj=>h j (by omega))
   have h2:=h n (by omega)
   have h3:(isum n f+f n).natAbs≤(isum n f).natAbs+(f n).natAbs:=Int.natAbs_add_le _ _
   show (isum n f+f n).natAbs≤(n+1) * B
   rw[Nat.add_mul];omega
theorem n7_:∀{n:Nat} {f g:Nat→Int},(∀j,j < n→f j=g j)→isum n f=isum n g
 | 0,_,_,_=>rfl
 | n+1,f,g,h=>by
   show isum n f+f n=isum n g+g n
   rw[n7_ (n:=n) (fun j hj=>h j (by omega)),h n (by omega)]
theorem sn_(Y X c M:Nat)(hX:c ^ M≤X)(hY:Y≤c * (X+1)):Y ^ M < (X+1) ^ (M+1):=by
 have h1:Y ^ M≤(c * (X+1)) ^ M:=Nat.pow_le_pow_left hY M
 rw[Nat.mul_pow] at h1
 have h2:c ^ M * (X+1) ^ M≤X * (X+1) ^ M:=Nat.mul_le_mul_right _ hX
 have h3:X * (X+1) ^ M < (X+1) ^ (M+1):=by
  rw[Nat.pow_succ,Nat.mul_comm ((X+1) ^ M)]
  exact Nat.mul_lt_mul_of_pos_right (Nat.lt_succ_self X) (Nat.pow_pos (Nat.succ_pos X))
 omega
theorem siegel(M H:Nat)(a:Nat→Nat→Int)(ha:∀i j,i < M→j < M+1→(a i j).natAbs≤H) :
 ∃x:Nat→Int,(∃j,j < M+1∧x j≠0)∧(∀j,j < M+1→(x j).natAbs≤(2 * ((M+1) * H)+1) ^ M)∧∀i,i < M→isum (M+1) (fun j=>a i j * x j)=0:=by
 obtain⟨X,hX⟩:∃X,(2 * ((M+1) * H)+1) ^ M=X:=⟨_,rfl⟩
 obtain⟨U,hU⟩:∃U,(M+1) * (H * X)=U:=⟨_,rfl⟩
 have hY:2 * U+1≤(2 * ((M+1) * H)+1) * (X+1):=by
  have h1:2 * U=2 * ((M+1) * H) * X:=by rw[←hU,Nat.mul_assoc,Nat.mul_assoc]
  rw[Nat.add_mul,Nat.mul_add,Nat.mul_one,Nat.one_mul]
  omega
 have hroom:=sn_ (2 * U+1) X _ M (Nat.le_of_eq hX) hY
 have hd:∀c j,digN (X+1) c j≤X:=fun c j=>Nat.le_of_lt_succ (Nat.mod_lt _ (Nat.succ_pos X))
 let v:Nat→Nat→Int:=fun c i=>isum (M+1) (fun j=>a i j * (digN (X+1) c j:Int))
 have hv:∀c i,i < M→(v c i).natAbs≤U:=fun c i hi=>by
  rw[←hU]
  refine isum_le (fun j hj=>?_)
  rw[Int.natAbs_mul,Int.natAbs_natCast]
  exact Nat.mul_le_mul (ha i j hi hj) (hd c j)
 let e:Nat→Nat→Nat:=fun c i=>(v c i+(U:Int)).toNat
 have he:∀c i,i < M→e c i < 2 * U+1:=fun c i hi=>by
  have:=hv c i hi
  show (v c i+(U:Int)).toNat < _
  omega
 obtain⟨c,d,h1,h2,h3⟩:=pigeon ((2 * U+1) ^ M) (fun c=>encN (2 * U+1) M (e c)) (fun c _=>encN_lt (he c))
 have h4:=s3_ (he c) (he d) h3
 have h5:∀i,i < M→v c i=v d i:=fun i hi=>by
  have g1:=h4 i hi
  have g2:=hv c i hi
  have g3:=hv d i hi
  have g4:(v c i+(U:Int)).toNat=(v d i+(U:Int)).toNat:=g1
  omega
 refine ⟨fun j=>(digN (X+1) c j:Int) - (digN (X+1) d j:Int),?_,fun j _=>?_,fun i hi=>?_⟩
 ·by_cases hx:∃j,j < M+1∧(digN (X+1) c j:Int) - (digN (X+1) d j:Int)≠0
  ·exact hx
  ·have h6:∀j,j < M+1→digN (X+1) c j=digN (X+1) d j:=fun j hj=>by
    by_cases h7:(digN (X+1) c j:Int) - (digN (X+1) d j:Int)=0
    ·omega
    ·exact absurd ⟨j,hj,h7⟩ hx
   have h8:encN (X+1) (M+1) (digN (X+1) c)=encN (X+1) (M+1) (digN (X+1) d):=nt_ h6
   rw[pp_ _ _ (by omega),pp_ _ _ (by omega)] at h8
   omega
 ·have:=hd c j
  have:=hd d j
  show ((digN (X+1) c j:Int) - (digN (X+1) d j:Int)).natAbs≤_
  rw[hX];omega
 ·have h6:=h5 i hi
  rw[n7_ (g:=fun j=>a i j * (digN (X+1) c j:Int) - a i j * (digN (X+1) d j:Int)) (fun j _=>Int.mul_sub _ _ _),s4_]
  show v c i - v d i=0
  omega
theorem nat_far:∀bad:LR_,∃n:Nat,∀m:Nat,n≤m→((m:Nat):Rat) ∉ bad
 | [] => ⟨0,fun m _=>by simp⟩
 | b :: bad=>by
   obtain⟨n,hn⟩:=nat_far bad
   by_cases hb:∃k:Nat,((k:Nat):Rat)=b
   ·obtain⟨k,hk⟩:=hb
    refine ⟨max n (k+1),fun m hm h=>?_⟩
    rcases List.mem_cons.1 h with h | h
    ·have h2:((m:Nat):Rat)=((k:Nat):Rat):=by rw[h,hk]
     have:=Rat.natCast_inj.1 h2
     omega
    ·exact hn m (by omega) h
   ·refine ⟨n,fun m hm h=>?_⟩
    rcases List.mem_cons.1 h with h | h
    ·exact hb ⟨m,h⟩
    ·exact hn m hm h
def syn (a:Rat):List Rat→List Rat
 | [] => []
 | _ :: l=>padd l (ag_ a (syn a l))
theorem nz_(a:Rat):∀l:LR_,(syn a l).length≤l.length - 1
 | [] => Nat.le_refl _
 | c :: l=>by
   have h:=nz_ a l
   refine Nat.le_trans (gw_ _ _) ?_
   rw[be_,List.length_cons];omega
theorem oj_(a x:Rat):∀l:LR_,ba_ x l=ba_ a l+(x - a) * ba_ x (syn a l)
 | [] => by show (0:Rat)=0+(x - a) * 0;grind
 | c :: l=>by
   have h:=oj_ a x l
   show c+x * ba_ x l=c+a * ba_ a l+(x - a) * ba_ x (padd l (ag_ a (syn a l)))
   rw[a2_,au_]
   grind
theorem tl_:∀(n:Nat) (l bad:LR_),l.length≤n→(∀x,x ∉ bad→ba_ x l=0)→∀x,ba_ x l=0
 | 0,l,_,hl,_,x=>by
   rw[List.eq_nil_of_length_eq_zero (Nat.le_zero.1 hl)];rfl
 | n+1,l,bad,hl,h,x=>by
   obtain⟨m,hm⟩:=nat_far bad
   have ha:=hm m (Nat.le_refl m)
   have h0:=h _ ha
   have hs:=tl_ n (syn ((m:Nat):Rat) l) (((m:Nat):Rat) :: bad) (by have:=nz_ ((m:Nat):Rat) l;omega) (fun y hy=>by
    rw[List.mem_cons] at hy
    have h1:=oj_ ((m:Nat):Rat) y l
    rw[h0,h y (fun e=>hy (.inr e))] at h1
    have h2:y - ((m:Nat):Rat)≠0:=fun e=>hy (.inl (by grind))
    have h3:(y - ((m:Nat):Rat)) * ba_ y (syn ((m:Nat):Rat) l)=0:=by grind
    rcases Rat.mul_eq_zero.1 h3 with h4 | h4
    ·exact absurd h4 h2
    ·exact h4)
   rw[oj_ ((m:Nat):Rat) x l,h0,hs x];grind
theorem zero_co:∀(l:LR_),(∀x,ba_ x l=0)→∀i,co l i=0
 | [],_,i=>rfl
 | c :: l,h,i=>by
   have h0:c=0:=by
    have h1:c+0 * ba_ 0 l=0:=h 0
    grind
   have hl:=tl_ l.length l [0] (Nat.le_refl _) (fun x hx=>by
    have hx0:x≠0:=fun e=>hx (by rw[e];exact List.mem_cons_self ..)
    have h1:c+x * ba_ x l=0:=h x
    have h2:x * ba_ x l=0:=by grind
    rcases Rat.mul_eq_zero.1 h2 with h3 | h3
    ·exact absurd h3 hx0
    ·exact h3)
   cases i with
   | zero=>exact h0
   | succ i=>rw[ch_];exact zero_co l hl i
theorem cj_(x:Rat)(a b:LR_):ba_ x (psub a b)=ba_ x a - ba_ x b:=by
 unfold psub
 rw[a2_,au_];grind
theorem ap_{a b:List Rat}(h:∀x,ba_ x a=ba_ x b):peq a b:=fun i=>by
 have h1:=zero_co (psub a b) (fun x=>by rw[cj_,h x];grind) i
 rw[d6_] at h1
 grind
theorem dx_{a b:List Rat}(ha:plen a≠0)(hb:plen b≠0):plen (pmul a b)=plen a+plen b - 1:=by
 have:=(fp_ (a:=a) (b:=b) (m:=plen a - 1) (n:=plen b - 1) (by omega) (by omega)).1
 omega
theorem cd_(a b:LR_):plen (pmul a b)≤plen a+plen b - 1:=by
 by_cases ha:plen a=0
 ·have h:plen (pmul a b)=0:=ao_ (a6_ (c2_ ha) (peq.refl b))
  omega
 ·by_cases hb:plen b=0
  ·have h:plen (pmul a b)=0:=ao_ ((a6_ (peq.refl a) (c2_ hb)).trans (d4_ a))
   omega
  ·exact Nat.le_of_eq (dx_ ha hb)
def Ints (a:LR_) (H:Nat):Prop:=∀i,∃z:Int,co a i=(z:Rat)∧z.natAbs≤H
theorem Ints.congr{a b:List Rat}{H:Nat}(h:Ints a H)(e:peq a b):Ints b H:=fun i=>by
 obtain⟨z,h1,h2⟩:=h i
 exact⟨z,by rw[←e i];exact h1,h2⟩
theorem Ints.mono{a:List Rat}{H K:Nat}(h:Ints a H)(e:H≤K):Ints a K:=fun i=>by
 obtain⟨z,h1,h2⟩:=h i
 exact⟨z,h1,Nat.le_trans h2 e⟩
theorem Ints.neg{a:List Rat}{H:Nat}{c:Rat}(h:Ints (ag_ c a) H):Ints (ag_ (-c) a) H:=fun i=>by
 obtain⟨z,h1,h2⟩:=h i
 refine ⟨-z,?_,by omega⟩
 rw[aj_] at h1 ⊢
 rw[Rat.intCast_neg,←h1];grind
theorem l0_:∀(n:Nat) (f:Nat→Int),((isum n f:Int):Rat)=b5_ n (fun j=>((f j:Int):Rat))
 | 0,_=>rfl
 | n+1,f=>by
   show ((isum n f+f n:Int):Rat)=b5_ n (fun j=>((f j:Int):Rat))+((f n:Int):Rat)
   rw[Rat.intCast_add,l0_ n f]
theorem n6_(p:Nat):∀(q:Nat) (f:Nat→Int),isum (p+q) f=isum p f+isum q (fun j=>f (p+j))
 | 0,f=>by show isum p f=isum p f+0;omega
 | q+1,f=>by
   show isum (p+q) f+f (p+q)=isum p f+(isum q (fun j=>f (p+j))+f (p+q))
   rw[n6_ p q f];omega
theorem k3_(n:Nat)(f:Nat→Rat)(i:Nat):co ((List.range n).map f) i=if i < n then f i else 0:=by
 split
 ·rename_i h
  unfold co
  rw[List.getD_eq_getElem?_getD,List.getElem?_map,List.getElem?_range h];rfl
 ·exact dk_ (by simp;omega)
theorem nm_(p:Nat)(u:Nat→Rat)(F:LR_)(k:Nat):co (pmul ((List.range p).map u) F) k=b5_ p (fun j=>if j≤k then u j * co F (k - j) else 0):=by
 rw[c1_]
 let f:Nat→Rat:=fun j=>if j≤k then co ((List.range p).map u) j * co F (k - j) else 0
 have h1:b5_ (k+1) (fun i=>co ((List.range p).map u) i * co F (k - i))=b5_ (k+1) f:=bs_ fun i hi=>by
  show _=if i≤k then _ else _
  rw[if_pos (by omega)]
 have h2:b5_ (max (k+1) p) f=b5_ (k+1) f:=fq_ (by omega) fun i h3 _=>by
  show (if i≤k then _ else _)=_
  rw[if_neg (by omega)]
 have h3:b5_ (max (k+1) p) f=b5_ p f:=fq_ (by omega) fun i h3 _=>by
  show (if i≤k then co ((List.range p).map u) i * co F (k - i) else 0)=_
  rw[k3_]
  split
  ·rw[if_neg (by omega),Rat.zero_mul]
  ·rfl
 rw[h1,←h2,h3]
 refine bs_ fun i hi=>?_
 show (if i≤k then co ((List.range p).map u) i * co F (k - i) else 0)=_
 rw[k3_,if_pos hi]
theorem ne_{F E P Q:List Rat}{p q H D0:Nat}(hF:Ints F H)(hE:Ints E H)(hdF:plen F≤D0+(q+1))(hdE:plen E≤D0+p)(hQ:plen Q=q+1)
 (hcop:∃s t,peq (padd (pmul s P) (pmul t Q)) [1])
 (hC:∀U V:LR_,U.length≤p→V.length≤q+1→(∀k,D0≤k→co (pmul U F) k+co (pmul V E) k=0)→peq (pmul U Q) (pmul V P)) :
 ∃(U V:LR_) (k:Rat),k≠0∧Ints U ((2 * ((p+q+1) * H)+1) ^ (p+q))∧Ints V ((2 * ((p+q+1) * H)+1) ^ (p+q))∧peq U (ag_ k P)∧peq V (ag_ k Q)∧U.length≤p∧V.length≤q+1:=by
 let fz:Nat→Int:=fun i=>Classical.choose (hF i)
 have hfz:∀i,co F i=(fz i:Rat)∧(fz i).natAbs≤H:=fun i=>Classical.choose_spec (hF i)
 let ez:Nat→Int:=fun i=>Classical.choose (hE i)
 have hez:∀i,co E i=(ez i:Rat)∧(ez i).natAbs≤H:=fun i=>Classical.choose_spec (hE i)
 obtain⟨x,⟨j0,hj0,hj1⟩,hxX,hx0⟩:=siegel (p+q) H (fun i j=>if j < p then (if j≤D0+i then fz (D0+i - j) else 0) else (if j - p≤D0+i then ez (D0+i - (j - p)) else 0)) (fun i j _ _=>by
  split
  ·split
   ·exact (hfz _).2
   ·exact Nat.zero_le _
  ·split
   ·exact (hez _).2
   ·exact Nat.zero_le _)
 obtain⟨U,hU⟩:∃U,(List.range p).map (fun j=>((x j:Int):Rat))=U:=⟨_,rfl⟩
 obtain⟨V,hV⟩:∃V,(List.range (q+1)).map (fun j=>((x (p+j):Int):Rat))=V:=⟨_,rfl⟩
 have hUl:U.length≤p:=by rw[←hU];simp
 have hVl:V.length≤q+1:=by rw[←hV];simp
 have hUc:∀i,co U i=if i < p then ((x i:Int):Rat) else 0:=fun i=>by rw[←hU,k3_]
 have hVc:∀i,co V i=if i < q+1 then ((x (p+i):Int):Rat) else 0:=fun i=>by rw[←hV,k3_]
 have hUI:Ints U ((2 * ((p+q+1) * H)+1) ^ (p+q)):=fun i=>by
  rw[hUc]
  by_cases hi:i < p
  ·rw[if_pos hi];exact⟨x i,rfl,hxX i (by omega)⟩
  ·rw[if_neg hi];exact⟨0,rfl,Nat.zero_le _⟩
 have hVI:Ints V ((2 * ((p+q+1) * H)+1) ^ (p+q)):=fun i=>by
  rw[hVc]
  by_cases hi:i < q+1
  ·rw[if_pos hi];exact⟨x (p+i),rfl,hxX (p+i) (by omega)⟩
  ·rw[if_neg hi];exact⟨0,rfl,Nat.zero_le _⟩
 have hvan:∀k,D0≤k→co (pmul U F) k+co (pmul V E) k=0:=fun k hk=>by
  by_cases hM:k < D0+(p+q)
  ·obtain⟨i,hi⟩:∃i,D0+i=k:=⟨k - D0,by omega⟩
   have h1:=hx0 i (by omega)
   have h2:((isum (p+q+1) _:Int):Rat)=((0:Int):Rat):=congrArg (fun z:Int=>(z:Rat)) h1
   rw[show p+q+1=p+(q+1) by omega,n6_,Rat.intCast_add,l0_,l0_] at h2
   rw[←hU,←hV,nm_,nm_]
   refine Eq.trans ?_ (h2.trans rfl)
   congr 1
   ·refine bs_ fun j hj=>?_
    rw[if_pos hj,hi]
    split
    ·rw[(hfz (k - j)).1,Rat.intCast_mul,Rat.mul_comm]
    ·rw[Int.zero_mul];rfl
   ·refine bs_ fun j _=>?_
    rw[if_neg (show ¬p+j < p by omega),hi,Nat.add_sub_cancel_left]
    split
    ·rw[(hez (k - j)).1,Rat.intCast_mul,Rat.mul_comm]
    ·rw[Int.zero_mul];rfl
  ·have h1:=cd_ U F
   have h2:=cd_ V E
   have h3:=bc_ U
   have h4:=bc_ V
   rw[ct_ (a:=pmul U F) (by omega),ct_ (a:=pmul V E) (by omega)];grind
 have hUV:=hC U V hUl hVl hvan
 obtain⟨s,t,hst⟩:=hcop
 obtain⟨K,hK⟩:∃K,padd (pmul s U) (pmul t V)=K:=⟨_,rfl⟩
 have hev:∀y,ba_ y s * ba_ y P+ba_ y t * ba_ y Q=1:=fun y=>by
  have h:=ak_ y hst
  rw[a2_,ae_,ae_] at h
  have h1:ba_ y [1]=1:=by show (1:Rat)+y * 0=1;grind
  rw[h1] at h;exact h
 have hev2:∀y,ba_ y U * ba_ y Q=ba_ y V * ba_ y P:=fun y=>by
  have h:=ak_ y hUV
  rwa [ae_,ae_] at h
 have hUK:peq U (pmul P K):=ap_ fun y=>by
  have h1:=hev y
  have h2:=hev2 y
  rw[←hK,ae_,a2_,ae_,ae_];grind
 have hVK:peq V (pmul Q K):=ap_ fun y=>by
  have h1:=hev y
  have h2:=hev2 y
  rw[←hK,ae_,a2_,ae_,ae_];grind
 have hK0:plen K≠0:=fun e=>by
  have hz:∀i,co U i=0:=fun i=>by rw[hUK i,(a6_ (peq.refl P) (c2_ e)) i,d4_ P i,ef_]
  have hz2:∀i,co V i=0:=fun i=>by rw[hVK i,(a6_ (peq.refl Q) (c2_ e)) i,d4_ Q i,ef_]
  by_cases hjp:j0 < p
  ·have h1:=hz j0
   rw[hUc,if_pos hjp] at h1
   exact hj1 (Rat.intCast_inj.1 h1)
  ·have h1:=hz2 (j0 - p)
   rw[hVc,if_pos (by omega),show p+(j0 - p)=j0 by omega] at h1
   exact hj1 (Rat.intCast_inj.1 h1)
 have hK1:plen K=1:=by
  have h1:=ao_ hVK
  rw[dx_ (by omega) hK0,hQ] at h1
  have h2:=bc_ V
  omega
 obtain⟨k,hk⟩:∃k,co K 0=k:=⟨_,rfl⟩
 have hk0:k≠0:=hk▸ec_ hK1
 have hKk:peq K [k]:=fun i=>by
  cases i with
  | zero=>exact hk
  | succ i=>rw[ct_ (a:=K) (by omega),ch_,ef_]
 have hke:∀y,ba_ y K=k:=fun y=>by
  rw[ak_ y hKk]
  show k+y * 0=k
  grind
 refine ⟨U,V,k,hk0,hUI,hVI,hUK.trans (ap_ fun y=>?_),hVK.trans (ap_ fun y=>?_),hUl,hVl⟩
 ·rw[ae_,au_,hke];grind
 ·rw[ae_,au_,hke];grind
theorem pc_{A B u v G:List Rat}{H:Nat}{c:Rat}(hc:c≠0)(hAI:Ints (ag_ c A) H)(hBI:Ints (ag_ c B) H)(hA:peq A (pmul u G))(hB:peq B (pmul v G))(hG:plen G≠0)(hv:plen v≠0)
 (hcop:∃s t,peq (padd (pmul s u) (pmul t v)) [1]):∃k:Rat,k≠0∧Ints (ag_ k u) ((2 * ((plen u+plen v) * H)+1) ^ (plen u+plen v - 1))∧Ints (ag_ k v) ((2 * ((plen u+plen v) * H)+1) ^ (plen u+plen v - 1)):=by
 obtain⟨q,hq⟩:∃q,plen v=q+1:=⟨plen v - 1,by omega⟩
 have hdB:plen B=plen v+plen G - 1:=by rw[ao_ hB,dx_ hv hG]
 have hdA:plen A≤plen u+plen G - 1:=by rw[ao_ hA];exact cd_ _ _
 obtain⟨U,V,k,h1,h2,h3,h4,h5,_,_⟩:=ne_ (F:=ag_ c B) (E:=ag_ (-c) A) (P:=u) (Q:=v) (p:=plen u) (q:=q) (D0:=plen G - 1) hBI hAI.neg (by rw[bj_ hc];omega) (by rw[bj_ (by grind)];omega) hq hcop (fun U V _ _ hvan=>by
  obtain⟨W,hW⟩:∃W,psub (pmul U v) (pmul V u)=W:=⟨_,rfl⟩
  have hWG:peq (padd (pmul U (ag_ c B)) (pmul V (ag_ (-c) A))) (ag_ c (pmul W G)):=ap_ fun y=>by
   have e1:=ak_ y hA
   have e2:=ak_ y hB
   rw[ae_] at e1 e2
   rw[a2_,ae_,ae_,au_,au_,au_,ae_,←hW,cj_,ae_,ae_,e1,e2];grind
  have hW0:plen W=0:=Classical.byContradiction fun hn=>by
   have g1:=dx_ hn hG
   have g2:=ec_ (a:=pmul W G) (n:=plen W+plen G - 2) (by omega)
   have g3:=hWG (plen W+plen G - 2)
   rw[bf_,hvan _ (by omega),aj_] at g3
   rcases Rat.mul_eq_zero.1 g3.symm with g4 | g4
   ·exact hc g4
   ·exact g2 g4
  intro i
  have g1:=plen_zero.1 hW0 i
  rw[←hW,d6_] at g1
  grind)
 rw[show plen u+q+1=plen u+plen v by omega,show plen u+q=plen u+plen v - 1 by omega] at h2 h3
 exact⟨k,h1,h2.congr h4,h3.congr h5⟩
theorem la_{a b:List Rat}(h:plen b < plen a):plen (padd a b)=plen a:=by
 have h1:=hh_ a b
 have h2:=ec_ (a:=a) (n:=plen a - 1) (by omega)
 have h3:co (padd a b) (plen a - 1)≠0:=by
  rw[bf_,ct_ (a:=b) (by omega),Rat.add_zero];exact h2
 have:=il_ h3
 omega
theorem k8_(a:LR_):plen (ag_ (-1) a)=plen a:=bj_ (by decide) a
theorem ma_{a b:List Rat}(h:plen a < plen b):plen (psub a b)=plen b:=by
 have e:peq (psub a b) (padd (ag_ (-1) b) a):=fun i=>by rw[d6_,bf_,aj_];grind
 rw[ao_ e,la_ (by rw[k8_];exact h),k8_]
theorem lw_{x y q r:List Rat}(h:isDiv x y q r)(hl:plen y≤plen x):plen q=plen x - plen y+1:=by
 have h2:=h.2
 have hq:plen q≠0:=fun e=>by
  have h3:plen x=plen r:=ao_ (h.1.trans (fun i=>by rw[bf_,(a6_ (c2_ e) (peq.refl y)) i];show (0:Rat)+_=_;grind))
  omega
 have h4:=dx_ hq (b:=y) (by omega)
 have h5:=ao_ h.1
 rw[la_ (by omega),h4] at h5
 omega
structure Eu (A B x y:LR_):Prop where
 some:∃(ux vx uy vy:LR_) (e:Rat),e≠0∧peq x (padd (pmul ux A) (pmul vx B))∧peq y (padd (pmul uy A) (pmul vy B))∧peq (psub (pmul ux vy) (pmul uy vx)) [e]∧
  plen vy+plen x=plen A+1∧plen uy+plen x=plen B+1∧plen vx+plen y≤plen A∧plen ux+plen y≤plen B
 less:plen y < plen x
 small:plen x≤plen B
 most:plen B≤plen A
theorem b3_(c x:Rat):ba_ x [c]=c:=by show c+x * 0=c;grind
theorem eo_{c:Rat}(h:c≠0):plen [c]=1:=by
 have h1:=il_ (a:=[c]) (n:=0) h
 have h2:=bc_ [c]
 simp at h2;omega
theorem Eu.start{A B q r:List Rat}(hd:isDiv A B q r)(hl:plen B≤plen A):Eu A B B r:=by
 have h2:=hd.2
 have hq:=lw_ hd hl
 refine ⟨⟨[],[1],[1],ag_ (-1) q,-1,by decide,ap_ fun x=>?_,ap_ fun x=>?_,ap_ fun x=>?_,?_,?_,?_,?_⟩,h2,Nat.le_refl _,hl⟩
 ·rw[a2_,ae_,ae_,b3_];show _=0 * _+_;grind
 ·have:=ak_ x hd.1
  rw[a2_,ae_] at this
  rw[a2_,ae_,ae_,b3_,au_,this];grind
 ·rw[cj_,ae_,ae_,b3_,b3_];show 0 * _ - _=_;grind
 ·rw[k8_,hq];omega
 ·rw[eo_ (by decide)];omega
 ·rw[eo_ (by decide)];omega
 ·show 0+_≤_;omega
theorem Eu.step{A B x y q r:List Rat}(h:Eu A B x y)(hd:isDiv x y q r):Eu A B y r:=by
 obtain⟨⟨ux,vx,uy,vy,e,he,h1,h2,h3,h4,h5,h6,h7⟩,hl,hs,hm⟩:=h
 have hr:=hd.2
 have hq:=lw_ hd (by omega)
 have gv:=dx_ (a:=q) (b:=vy) (by omega) (by omega)
 have gu:=dx_ (a:=q) (b:=uy) (by omega) (by omega)
 have hv:plen (psub vx (pmul q vy))=plen (pmul q vy):=ma_ (by omega)
 have hu:plen (psub ux (pmul q uy))=plen (pmul q uy):=ma_ (by omega)
 refine ⟨⟨uy,vy,psub ux (pmul q uy),psub vx (pmul q vy),-e,by grind,h2,ap_ fun z=>?_,ap_ fun z=>?_,?_,?_,?_,?_⟩,hr,by omega,hm⟩
 ·have e1:=ak_ z h1
  have e2:=ak_ z h2
  have e3:=ak_ z hd.1
  rw[a2_,ae_,ae_] at e1 e2
  rw[a2_,ae_] at e3
  rw[a2_,ae_,ae_,cj_,cj_,ae_,ae_];grind
 ·have e4:=ak_ z h3
  rw[cj_,ae_,ae_,b3_] at e4
  rw[cj_,ae_,ae_,cj_,cj_,ae_,ae_,b3_];grind
 ·rw[hv,gv];omega
 ·rw[hu,gu];omega
 ·omega
 ·omega
theorem Ints.add{a b:List Rat}{H K:Nat}(h:Ints a H)(k:Ints b K):Ints (padd a b) (H+K):=fun i=>by
 obtain⟨z,h1,h2⟩:=h i
 obtain⟨y,k1,k2⟩:=k i
 refine ⟨z+y,by rw[bf_,h1,k1,Rat.intCast_add],?_⟩
 have:=Int.natAbs_add_le z y
 omega
theorem Ints.scale{b:List Rat}{K X:Nat}{z:Int}(k:Ints b K)(h:z.natAbs≤X):Ints (ag_ (z:Rat) b) (X * K):=fun i=>by
 obtain⟨y,k1,k2⟩:=k i
 refine ⟨z * y,by rw[aj_,k1,Rat.intCast_mul],?_⟩
 rw[Int.natAbs_mul]
 exact Nat.mul_le_mul h k2
theorem Ints.shift{a:List Rat}{H:Nat}(h:Ints a H):Ints (0 :: a) H:=fun i=>by
 cases i with
 | zero=>exact⟨0,rfl,Nat.zero_le _⟩
 | succ i=>rw[ch_];exact h i
theorem Ints.mul{b:List Rat}{K X:Nat}(k:Ints b K):∀{a:List Rat},Ints a X→Ints (pmul a b) (a.length * (X * K))
 | [],_=>fun i=>⟨0,by rw[pmul,ef_];rfl,Nat.zero_le _⟩
 | c :: l,h=>by
   obtain⟨z,h1,h2⟩:=h 0
   have hc:c=(z:Rat):=h1
   have hl:Ints l X:=fun i=>by
    have:=h (i+1)
    rwa [ch_] at this
   have ih:=Ints.mul k hl
   rw[pmul,List.length_cons,Nat.add_mul,Nat.one_mul,Nat.add_comm]
   refine Ints.add ?_ ih.shift
   rw[hc]
   exact k.scale h2
theorem Eu.size{A B x y:List Rat}{c:Rat}{H:Nat}(h:Eu A B x y)(hc:c≠0)(hA:Ints (ag_ c A) H)(hB:Ints (ag_ c B) H) :
 ∃k:Rat,k≠0∧Ints (ag_ k y) ((plen A+plen B) * ((2 * ((plen A+plen B) * H)+1) ^ (plen A+plen B) * H)):=by
 obtain⟨⟨ux,vx,uy,vy,e,he,h1,h2,h3,h4,h5,h6,h7⟩,hl,hs,hm⟩:=h
 obtain⟨q,hq⟩:∃q,plen vy=q+1:=⟨plen vy - 1,by omega⟩
 have hcA:plen (ag_ c A)=plen A:=bj_ hc A
 have hcB:plen (ag_ c B)=plen B:=bj_ hc B
 obtain⟨U,V,k,k0,hU,hV,eU,eV,lU,lV⟩:=ne_ (F:=ag_ c A) (E:=ag_ c B) (P:=uy) (Q:=vy) (p:=plen uy) (q:=q) (D0:=plen x - 1) hA hB (by omega) (by omega) hq
  ⟨ag_ (-(1 / e)) vx,ag_ (1 / e) ux,ap_ fun z=>by
    have e4:=ak_ z h3
    rw[cj_,ae_,ae_,b3_] at e4
    rw[a2_,ae_,ae_,au_,au_,b3_]
    have e5:1 / e * e=1:=Rat.div_mul_cancel he
    grind⟩
  (fun U V hU hV hvan=>by
    obtain⟨W,hW⟩:∃W,psub (pmul U vy) (pmul V uy)=W:=⟨_,rfl⟩
    obtain⟨w,hw⟩:∃w,padd (pmul U (ag_ c A)) (pmul V (ag_ c B))=w:=⟨_,rfl⟩
    have hwl:plen w≤plen x - 1:=hg_ fun i hi=>by rw[←hw,bf_];exact hvan i hi
    have e1:peq (pmul W (ag_ c A)) (psub (pmul vy w) (ag_ c (pmul V y))):=ap_ fun z=>by
     have e2:=ak_ z h2
     rw[a2_,ae_,ae_] at e2
     rw[←hW,←hw]
     simp only[a2_,cj_,ae_,au_]
     rw[e2];grind
    have hW0:plen W=0:=Classical.byContradiction fun hn=>by
     have g1:=dx_ hn (b:=ag_ c A) (by omega)
     have g2:=ao_ e1
     have g3:=hh_ (pmul vy w) (ag_ (-1) (ag_ c (pmul V y)))
     have g4:=cd_ vy w
     have g5:=cd_ V y
     have g6:=bc_ V
     have g7:=g6_ c (pmul V y)
     have g8:plen (psub (pmul vy w) (ag_ c (pmul V y)))≤max (plen (pmul vy w)) (plen (ag_ (-1) (ag_ c (pmul V y)))):=g3
     rw[k8_] at g8
     omega
    intro i
    have g1:=plen_zero.1 hW0 i
    rw[←hW,d6_] at g1
    grind)
 have hn:plen uy+q+1≤plen A+plen B:=by omega
 have hX:(2 * ((plen uy+q+1) * H)+1) ^ (plen uy+q)≤(2 * ((plen A+plen B) * H)+1) ^ (plen A+plen B):=
  Nat.le_trans (Nat.pow_le_pow_left (by have:=Nat.mul_le_mul_right H hn;omega) _) (Nat.pow_le_pow_right (by omega) (by omega))
 refine ⟨k * c,fun e0=>?_,?_⟩
 ·rcases Rat.mul_eq_zero.1 e0 with g | g
  ·exact k0 g
  ·exact hc g
 ·have e5:peq (padd (pmul U (ag_ c A)) (pmul V (ag_ c B))) (ag_ (k * c) y):=ap_ fun z=>by
   have e2:=ak_ z h2
   rw[a2_,ae_,ae_] at e2
   rw[a2_,ae_,ae_,ak_ z eU,ak_ z eV,au_,au_,au_,au_,au_,e2];grind
  refine Ints.congr (Ints.mono ((hA.mul (hU.mono hX)).add (hB.mul (hV.mono hX))) ?_) e5
  rw[←Nat.add_mul]
  exact Nat.mul_le_mul_right _ (by omega)
theorem ge_(l:LR_)(k i:Nat):co (l.take k) i=if i < k then co l i else 0:=by
 unfold co
 rw[List.getD_eq_getElem?_getD,List.getElem?_take]
 split
 ·rw[List.getD_eq_getElem?_getD]
 ·rfl
theorem pnorm_cut{l:List Rat}{k:Nat}(h0:l.getD k 0=0):ah_ (l.take (k+1))=ah_ (l.take k):=pnorm_iff.2 fun i=>by
 rw[ge_,ge_]
 by_cases h1:i < k
 ·rw[if_pos h1,if_pos (by omega)]
 ·by_cases h2:i < k+1
  ·rw[if_pos h2,if_neg h1]
   have:i=k:=by omega
   subst this
   exact h0
  ·rw[if_neg h2,if_neg h1]
theorem vj_{l:List Rat}{k:Nat}(hk:k < l.length)(h0:l.getD k 0≠0):ah_ (l.take (k+1))=l.take (k+1):=by
 have h1:co (l.take (k+1)) k≠0:=by rw[ge_,if_pos (by omega)];exact h0
 have h2:=il_ h1
 unfold plen at h2
 have h3:=dq_ (l.take (k+1))
 rw[h3]
 exact List.take_of_length_le (by rw[List.length_take];omega)
def tab (n:Nat) (f:Nat→Rat):List Rat:=(List.range n).map f
theorem h7_(n:Nat)(f:Nat→Rat):(tab n f).length=n:=by unfold tab;simp
theorem s9_{n k:Nat}{f:Nat→Rat}(h:k < n):(tab n f).getD k 0=f k:=by
 unfold tab
 rw[List.getD_eq_getElem?_getD,List.getElem?_map,List.getElem?_range h];rfl
theorem co_tab(n:Nat)(f:Nat→Rat)(i:Nat):co (tab n f) i=if i < n then f i else 0:=by
 split
 ·exact s9_ ‹_›
 ·exact dk_ (by rw[h7_];omega)
theorem tab_mem{n:Nat}{f:Nat→Rat}{q:Rat}(h:q∈tab n f):∃i,i < n∧q=f i:=by
 unfold tab at h
 obtain⟨i,h1,h2⟩:=List.mem_map.1 h
 exact⟨i,List.mem_range.1 h1,h2.symm⟩
theorem tab_padd(a b:LR_):peq (tab (max a.length b.length) (fun i=>co a i+co b i)) (padd a b):=fun i=>by
 rw[co_tab,bf_]
 split
 ·rfl
 ·rw[dk_ (l:=a) (by omega),dk_ (l:=b) (by omega),Rat.add_zero]
def ez_ (a b:LR_) (k i:Nat):Rat:=co a i * co b (k - i)
theorem tab_pmul(a b:LR_):peq (tab (a.length+b.length) (fun k=>b5_ (k+1) (ez_ a b k))) (pmul a b):=fun i=>by
 rw[co_tab,c1_]
 split
 ·rfl
 ·exact ((c1_ a b i).symm.trans (dk_ (Nat.le_trans (b1_ a b) (by omega)))).symm
theorem m6_{a b:List Rat}{k i:Nat}(h1:i≤k+1)(h2:i=k+1∨a.length≤i):b5_ (k+1) (ez_ a b k)=b5_ i (ez_ a b k):=by
 refine fq_ h1 fun j h3 _=>?_
 unfold ez_
 rw[dk_ (by omega),Rat.zero_mul]
theorem pterm_far{a b:List Rat}{k i:Nat}(h:b.length≤k - i):ez_ a b k i=0:=by
 unfold ez_
 rw[dk_ h,Rat.mul_zero]
def shot (d:Nat) (c:Rat):List Rat:=List.replicate d 0 ++ [c]
theorem im_(d:Nat)(c:Rat):(shot d c).length=d+1:=by unfold shot;simp
theorem ey_(d:Nat)(c:Rat)(i:Nat):co (shot d c) i=if i=d then c else 0:=by
 unfold co shot
 rw[List.getD_eq_getElem?_getD]
 by_cases h1:i < d
 ·rw[List.getElem?_append_left (by simpa using h1),List.getElem?_replicate,if_pos h1,if_neg (by omega)];rfl
 ·rw[List.getElem?_append_right (by simpa using Nat.le_of_not_lt h1),List.length_replicate]
  by_cases h2:i=d
  ·rw[if_pos h2,h2,Nat.sub_self];rfl
  ·rw[if_neg h2,List.getElem?_eq_none (by simp;omega)];rfl
theorem tw_{d:Nat}{c:Rat}(b:LR_)(k i:Nat):b5_ i (ez_ (shot d c) b k)=if d < i then c * co b (k - d) else 0:=by
 split
 ·rename_i h
  rw[n1_ (k:=d) h (fun j _ h2=>by unfold ez_;rw[ey_,if_neg h2,Rat.zero_mul])]
  unfold ez_
  rw[ey_,if_pos rfl]
 ·rename_i h
  rw[bs_ (g:=fun _=>0) (fun j h2=>by unfold ez_;rw[ey_,if_neg (by omega),Rat.zero_mul])]
  exact ew_ i
theorem dr_(d:Nat)(c:Rat)(b:LR_)(k:Nat):co (pmul (shot d c) b) k=if d≤k then c * co b (k - d) else 0:=by
 rw[c1_]
 have h:=tw_ (d:=d) (c:=c) b k (k+1)
 unfold ez_ at h
 rw[h]
 by_cases h1:d≤k
 ·rw[if_pos h1,if_pos (by omega)]
 ·rw[if_neg h1,if_neg (by omega)]
theorem f8_{b:List Rat}(h:ah_ b=b)(h0:0 < b.length):b.getD (b.length - 1) 0≠0:=by
 have h1:=ay_ h
 have h2:=ec_ (a:=b) (n:=b.length - 1) (by omega)
 exact h2
theorem k2_{A B Q R Q' X R':List Rat}{c:Rat}(hB:ah_ B=B)(h0:0 < B.length)(hl:B.length≤R.length)(h:peq A (padd (pmul Q B) R))
 (hc:c=R.getD (R.length - 1) 0 / B.getD (B.length - 1) 0) (hQ:peq Q' (padd Q (shot (R.length - B.length) c))) (hX:peq X (pmul (shot (R.length - B.length) c) B)) (hR:peq R' (psub R X)) (hr:ah_ R'=R') :
 peq A (padd (pmul Q' B) R')∧R'.length < R.length:=by
 refine ⟨fun i=>?_,?_⟩
 ·rw[h i,bf_,bf_,hR i,d6_,hX i,(a6_ hQ (peq.refl B)) i,(fe_ _ _ _) i,bf_];grind
 ·have h1:plen R'≤R.length - 1:=hg_ fun i hi=>by
   rw[hR i,d6_,hX i,dr_,if_pos (by omega)]
   rcases Nat.lt_or_ge i R.length with h2 | h2
   ·have h3:i=R.length - 1:=by omega
    have h4:i - (R.length - B.length)=B.length - 1:=by omega
    rw[h4,h3,hc]
    show R.getD (R.length - 1) 0 - R.getD (R.length - 1) 0 / B.getD (B.length - 1) 0 * B.getD (B.length - 1) 0=0
    have h5:=f8_ hB h0
    rw[Rat.div_mul_cancel h5];grind
   ·rw[dk_ h2,dk_ (l:=B) (by omega)];grind
  rw[ay_ hr] at h1
  omega
theorem i5_{d:Nat}{c:Rat}{b:List Rat}{C K:Nat}(hc:qlen c≤C)(hb:∀q∈b,qlen q≤K)(hK:1≤K)(k:Nat):qlen (co (pmul (shot d c) b) k)≤C+K+1:=by
 rw[dr_]
 split
 ·exact Nat.le_trans (cu_ _ _) (Nat.add_le_add_right (Nat.add_le_add hc (cr_ hK hb _)) 1)
 ·rw[cy_];omega
theorem rk_{d:Nat}{c:Rat}{b:List Rat}{C K:Nat}(hc:qlen c≤C)(hb:∀q∈b,qlen q≤K)(hK:1≤K)(k i:Nat):qlen (b5_ i (ez_ (shot d c) b k))≤C+K+1:=by
 rw[tw_]
 split
 ·exact Nat.le_trans (cu_ _ _) (Nat.add_le_add_right (Nat.add_le_add hc (cr_ hK hb _)) 1)
 ·rw[cy_];omega
theorem div_len{B Q R Q' X R':List Rat}{c:Rat}{r K M:Nat}(hr1:1≤r)(hK1:1≤K)(hr:∀q∈R,qlen q≤r)(hb:∀q∈B,qlen q≤K)(hq:∀q∈Q,qlen q≤M)(hM:r+K+1≤M)
 (hc:c=R.getD (R.length - 1) 0 / B.getD (B.length - 1) 0) (hQ:peq Q' (padd Q (shot (R.length - B.length) c))) (hX:peq X (pmul (shot (R.length - B.length) c) B)) (hR:peq R' (psub R X)) (hfree:co Q (R.length - B.length)=0) :
 qlen c≤r+K+1∧(∀q∈X,qlen q≤r+K+K+2)∧(∀q∈R',qlen q≤r+r+K+K+4)∧(∀q∈Q',qlen q≤M):=by
 have h1:qlen c≤r+K+1:=by
  rw[hc]
  exact Nat.le_trans (ky_ _ _) (Nat.add_le_add_right (Nat.add_le_add (cr_ hr1 hr _) (cr_ hK1 hb _)) 1)
 have h2:∀i,qlen (co X i)≤r+K+K+2:=fun i=>by
  rw[hX i]
  exact Nat.le_trans (i5_ h1 hb hK1 i) (by omega)
 refine ⟨h1,cg_ h2,cg_ fun i=>?_,cg_ fun i=>?_⟩
 ·rw[hR i,d6_]
  have h3:=qlen_sub (co R i) (co X i)
  have h4:=cr_ hr1 hr i
  have h5:=h2 i
  omega
 ·rw[hQ i,bf_,ey_]
  by_cases h3:i=R.length - B.length
  ·rw[if_pos h3,h3,hfree,Rat.zero_add];omega
  ·rw[if_neg h3,Rat.add_zero]
   exact cr_ (by omega) hq i
structure Divs (A B Q R:LR_) (n K S t:Nat):Prop where
 sum:peq A (padd (pmul Q B) R)
 right:ah_ R=R
 way:t+R.length≤n
 most:t≤n+1 - B.length
 rlen:∀q∈R,qlen q+(K+K+6)≤2 ^ t * S
 qlen:∀q∈Q,Go.Proofs.YtocebjbjnfammaaGreat.qlen q+(K+5)≤2 ^ (n+1 - B.length) * S
 free:∀i,i+B.length≤R.length→co Q i=0
theorem Divs.start{A B R:List Rat}{n N K S:Nat}(hR:ah_ A=R)(hn:R.length≤n)(hA:∀q∈R,Go.Proofs.YtocebjbjnfammaaGreat.qlen q≤N)(hS:N+(K+K+6)=S):Divs A B [] R n K S 0:=by
 subst hR
 exact⟨fun i=>by rw[bf_,pmul,ef_,ar_];grind,a9_ A,by omega,by omega,fun q hq=>by have:=hA q hq;rw[Nat.pow_zero,Nat.one_mul];omega,fun q hq=>by simp at hq,fun _ _=>rfl⟩
theorem Divs.left{A B Q R:List Rat}{n K S t:Nat}(h:Divs A B Q R n K S t)(h0:0 < R.length):∃r,1≤r∧r+(K+K+6)=2 ^ t * S∧∀q∈R,Go.Proofs.YtocebjbjnfammaaGreat.qlen q≤r:=by
 have h1:=h.rlen _ (f4_ (k:=0) h0)
 have h2:=i8_ (R.getD 0 0)
 refine ⟨2 ^ t * S - (K+K+6),by omega,by omega,fun q hq=>?_⟩
 have:=h.rlen q hq
 omega
theorem de_{a b:Nat}(h:a≤b)(c:Nat):2 ^ a * c≤2 ^ b * c:=Nat.mul_le_mul_right c (Nat.pow_le_pow_right (by decide) h)
theorem Divs.step{A B Q R Q' X R':List Rat}{n K S t:Nat}{c:Rat}(h:Divs A B Q R n K S t)(hB:ah_ B=B)(h0:0 < B.length)(hl:B.length≤R.length)(hb:∀q∈B,Go.Proofs.YtocebjbjnfammaaGreat.qlen q≤K)
 (hc:c=R.getD (R.length - 1) 0 / B.getD (B.length - 1) 0) (hQ:peq Q' (padd Q (shot (R.length - B.length) c))) (hX:peq X (pmul (shot (R.length - B.length) c) B)) (hR:peq R' (psub R X)) (hr:ah_ R'=R') :
 Divs A B Q' R' n K S (t+1)∧R'.length < R.length:=by
 obtain⟨h1,h2⟩:=k2_ hB h0 hl h.sum hc hQ hX hR hr
 obtain⟨r,hr1,hr2,hr3⟩:=h.left (by omega)
 have hK1:1≤K:=Nat.le_trans (i8_ (B.getD 0 0)) (hb _ (f4_ (k:=0) h0))
 have hw:=h.way
 have hp:2 ^ t * S≤2 ^ (n+1 - B.length) * S:=de_ (by omega) S
 obtain⟨M,hM⟩:∃M,M+(K+5)=2 ^ (n+1 - B.length) * S:=⟨2 ^ (n+1 - B.length) * S - (K+5),by omega⟩
 obtain⟨_,_,g3,g4⟩:=div_len (M:=M) hr1 hK1 hr3 hb (fun q hq=>by have:=h.qlen q hq;omega) (by omega) hc hQ hX hR (h.free _ (by omega))
 refine ⟨⟨h1,hr,by omega,by omega,fun q hq=>?_,fun q hq=>?_,fun i hi=>?_⟩,h2⟩
 ·have:=g3 q hq
  rw[Nat.pow_succ,Nat.mul_assoc,Nat.mul_comm 2 S,←Nat.mul_assoc];omega
 ·have:=g4 q hq
  omega
 ·rw[hQ i,bf_,ey_,if_neg (by omega),h.free i (by omega)];grind
theorem Divs.room{A B Q R:List Rat}{n K S t:Nat}(h:Divs A B Q R n K S t)(h0:0 < B.length)(hl:B.length≤R.length)(hb:∀q∈B,Go.Proofs.YtocebjbjnfammaaGreat.qlen q≤K){T:Nat}(hT:2 ^ (n+1 - B.length) * S≤T) :
 1≤K∧(∀q∈R,Go.Proofs.YtocebjbjnfammaaGreat.qlen q≤T)∧(∀q∈Q,Go.Proofs.YtocebjbjnfammaaGreat.qlen q≤T)∧Go.Proofs.YtocebjbjnfammaaGreat.qlen (R.getD (R.length - 1) 0 / B.getD (B.length - 1) 0)+K+5≤T:=by
 have hK1:1≤K:=Nat.le_trans (i8_ (B.getD 0 0)) (hb _ (f4_ (k:=0) h0))
 have hw:=h.way
 have hp:2 ^ t * S≤2 ^ (n+1 - B.length) * S:=de_ (by omega) S
 obtain⟨r,hr1,hr2,hr3⟩:=h.left (by omega)
 refine ⟨hK1,fun q hq=>by have:=h.rlen q hq;omega,fun q hq=>by have:=h.qlen q hq;omega,?_⟩
 have h1:=ky_ (R.getD (R.length - 1) 0) (B.getD (B.length - 1) 0)
 have h2:=cr_ hr1 hr3 (R.length - 1)
 have h3:=cr_ hK1 hb (B.length - 1)
 unfold co at h2 h3
 omega
theorem Divs.over{A B Q R:List Rat}{n K S t:Nat}(h:Divs A B Q R n K S t)(hB:ah_ B=B)(hl:R.length < B.length) :
 isDiv A B (ah_ Q) R∧R.length≤n∧(∀q∈R,Go.Proofs.YtocebjbjnfammaaGreat.qlen q+(K+K+6)≤2 ^ (n+1 - B.length) * S)∧(∀q∈ah_ Q,Go.Proofs.YtocebjbjnfammaaGreat.qlen q≤2 ^ (n+1 - B.length) * S):=by
 have hw:=h.way
 refine ⟨⟨fun i=>?_,by rw[ay_ h.right,ay_ hB];exact hl⟩,by omega,fun q hq=>Nat.le_trans (h.rlen q hq) (de_ h.most S),fun q hq=>by have:=h.qlen q (gt_ hq);omega⟩
 rw[h.sum i,bf_,bf_,(a6_ (ar_ Q) (peq.refl B)) i]
structure Gcds (A B x y:LR_) (X Y E:Nat):Prop where
 way:∀g,common x y g→common A B g
 xr:ah_ x=x
 yr:ah_ y=y
 xl:∀q∈x,qlen q≤X
 yl:∀q∈y,qlen q≤Y
 len:2 ^ (x.length+y.length+y.length) * (X+Y+Y+6)≤E
theorem Gcds.step{A B x y q r:List Rat}{X Y E:Nat}(h:Gcds A B x y X Y E)(hd:isDiv x y q r)(hr:ah_ r=r)(hn:r.length≤x.length)
 (hl:∀u∈r,qlen u+(Y+Y+6)≤2 ^ (x.length+1 - y.length) * (X+(Y+Y+6))):∃Z,Gcds A B y r Y Z E∧r.length < y.length:=by
 have hm:r.length < y.length:=by
  have:=hd.2
  rwa [ay_ hr,ay_ h.yr] at this
 have hp:(2:Nat) ^ 0 * (X+(Y+Y+6))≤2 ^ (x.length+1 - y.length) * (X+(Y+Y+6)):=de_ (by omega) _
 obtain⟨Z,hZ⟩:∃Z,Z+(Y+Y+6)=2 ^ (x.length+1 - y.length) * (X+(Y+Y+6)):=⟨2 ^ (x.length+1 - y.length) * (X+(Y+Y+6)) - (Y+Y+6),by omega⟩
 refine ⟨Z,⟨fun g hg=>h.way g (common.step hd.1 hg),h.yr,hr,h.yl,fun u hu=>by have:=hl u hu;omega,Nat.le_trans ?_ h.len⟩,hm⟩
 rw[show X+Y+Y+6=X+(Y+Y+6) by omega]
 by_cases hnm:x.length < y.length
 ·have e:x.length+1 - y.length=0:=by omega
  rw[e,Nat.pow_zero,Nat.one_mul] at hZ
  have h1:Y+Z+Z+6≤2 * (X+(Y+Y+6)):=by omega
  refine Nat.le_trans (Nat.mul_le_mul_left _ h1) ?_
  rw[←Nat.mul_assoc,←Nat.pow_succ]
  exact de_ (by omega) _
 ·have h1:Y+Z+Z+6≤2 * (2 ^ (x.length+1 - y.length) * (X+(Y+Y+6))):=by omega
  refine Nat.le_trans (Nat.mul_le_mul_left _ h1) ?_
  rw[←Nat.mul_assoc,←Nat.mul_assoc,←Nat.pow_succ,←Nat.pow_add]
  exact de_ (by omega) _
theorem Gcds.room{A B x y:List Rat}{X Y E:Nat}(h:Gcds A B x y X Y E):X≤E∧Y≤E∧2 ^ (x.length+1 - y.length) * (X+(Y+Y+6))≤E+E:=by
 have h1:=h.len
 have h2:(2:Nat) ^ 0 * (X+Y+Y+6)≤2 ^ (x.length+y.length+y.length) * (X+Y+Y+6):=de_ (by omega) _
 have h3:(2:Nat) ^ (x.length+1 - y.length) * (X+Y+Y+6)≤2 ^ (x.length+y.length+y.length+1) * (X+Y+Y+6):=de_ (by omega) _
 rw[Nat.pow_succ,Nat.mul_comm _ 2,Nat.mul_assoc] at h3
 rw[show X+(Y+Y+6)=X+Y+Y+6 by omega]
 omega
theorem Gcds.none{A B:List Rat}{X Y E:Nat}(h:Gcds A B [] [] X Y E):isGcd A B []:=⟨h.way _ (common.none _),fun n hn=>by rw[h4_] at hn;omega⟩
theorem Gcds.over{A B x:List Rat}{X Y E:Nat}{c:Rat}(h:Gcds A B x [] X Y E)(h0:0 < x.length)(hc:c=1 / x.getD (x.length - 1) 0) :
 isGcd A B (ah_ (ag_ c x))∧qlen c≤E∧∀q∈ah_ (ag_ c x),qlen q≤E:=by
 have ht:=f8_ h.xr h0
 have hcx:c * x.getD (x.length - 1) 0=1:=by rw[hc];exact Rat.div_mul_cancel ht
 have hc0:c≠0:=fun e=>by rw[e,Rat.zero_mul] at hcx;exact absurd hcx (by decide)
 have hx1:1≤X:=Nat.le_trans (i8_ _) (h.xl _ (f4_ h0))
 have hlc:qlen c≤X:=by
  rw[hc,Rat.div_def,Rat.one_mul]
  exact Nat.le_trans (hx_ _) (cr_ hx1 h.xl (x.length - 1))
 have hE:X+X+12≤E:=by
  have h1:=h.len
  have h2:(2:Nat) ^ 1 * (X+Y+Y+6)≤2 ^ (x.length+([]:LR_).length+([]:LR_).length) * (X+Y+Y+6):=de_ (by simp;omega) _
  omega
 refine ⟨⟨((h.way _ (common.none x)).scale hc0).of (peq.refl _) (peq.refl _) (ar_ _).symm,fun n hn=>?_⟩,by omega,fun q hq=>?_⟩
 ·have h1:plen (ah_ (ag_ c x))=x.length:=by rw[ao_ (ar_ _),bj_ hc0,ay_ h.xr]
  have h2:n=x.length - 1:=by omega
  rw[e5_,aj_,h2]
  exact hcx
 ·have h1:=ex_ hlc h.xl q (gt_ hq)
  omega
def pw (t:Nat):Nat:=4294967296 ^ t
theorem ff_(a b:Nat):pw (a+b)=pw a * pw b:=Nat.pow_add _ _ _
theorem cn_{a b:Nat}(h:a≤b):pw a≤pw b:=Nat.pow_le_pow_right (by decide) h
theorem fh_(a:Nat):0 < pw a:=Nat.pow_pos (by decide)
theorem rc_:pw 1=4294967296:=by decide
theorem pw_lt(a:Nat):pw a < pw (a+1):=Nat.pow_lt_pow_right (by decide) (Nat.lt_succ_self a)
theorem dj_{z:Int}{n t:Nat}(hz:z.natAbs≤pw t)(hn:n≤pw t):qlen ((z:Rat) / ((n:Nat):Rat))≤t+2:=by
 rw[←Rat.mkRat_eq_div]
 have h1:=j9_ z n
 have h2:=pw_lt t
 have h3:(dg z.natAbs).length≤t+1:=bn_ (Nat.lt_of_le_of_lt hz h2)
 have h4:(dg n).length≤t+1:=bn_ (Nat.lt_of_le_of_lt hn h2)
 omega
theorem db_{z y:Int}{t:Nat}(hz:z.natAbs≤pw t)(hy:y.natAbs≤pw t):qlen ((z:Rat) / (y:Rat))≤t+2:=by
 rcases Int.natAbs_eq y with e | e
 ·rw[e]
  exact dj_ hz hy
 ·have h1:(z:Rat) / (y:Rat)=((-z:Int):Rat) / ((y.natAbs:Nat):Rat):=by
   have h2:(y:Rat) = -((y.natAbs:Nat):Rat):=by
    rw[←Rat.intCast_natCast,←Rat.intCast_neg,←e]
   by_cases hy0:y=0
   ·rw[hy0]
    show (z:Rat) / 0=((-z:Int):Rat) / ((0:Nat):Rat)
    show (z:Rat) / 0=((-z:Int):Rat) / 0
    rw[Rat.div_def,Rat.div_def,Rat.inv_zero];grind
   ·have hn:((y.natAbs:Nat):Rat)≠0:=fun e2=>by
     have e3:y.natAbs=0:=Rat.natCast_inj.1 (e2.trans rfl)
     exact hy0 (Int.natAbs_eq_zero.1 e3)
    have hyn:(y:Rat)≠0:=fun e2=>hy0 (Rat.intCast_inj.1 e2)
    have g1:(z:Rat) / (y:Rat) * (y:Rat)=(z:Rat):=Rat.div_mul_cancel hyn
    have g2:((-z:Int):Rat) / ((y.natAbs:Nat):Rat) * ((y.natAbs:Nat):Rat)=((-z:Int):Rat):=Rat.div_mul_cancel hn
    rw[Rat.intCast_neg] at g2 ⊢
    generalize (z:Rat) / (y:Rat)=p at *
    generalize -(z:Rat) / ((y.natAbs:Nat):Rat)=r at *
    have g3:((y.natAbs:Nat):Rat) * (p - r)=0:=by rw[h2] at g1;grind
    rcases Rat.mul_eq_zero.1 g3 with g | g
    ·exact absurd g hn
    ·grind
  rw[h1]
  exact dj_ (by omega) hy
theorem num_lt{q:Rat}{N:Nat}(h:qlen q≤N):q.num.natAbs≤pw N:=Nat.le_of_lt (dg_length_pow.1 (Nat.le_trans (a8_ q) h))
theorem den_lt{q:Rat}{N:Nat}(h:qlen q≤N):q.den≤pw N:=Nat.le_of_lt (dg_length_pow.1 (Nat.le_trans (a7_ q) h))
theorem den_mul(q:Rat):((q.den:Nat):Rat) * q=(q.num:Rat):=by
 have h:q=(q.num:Rat) / ((q.den:Nat):Rat):=by rw[←Rat.mkRat_eq_div,Rat.mkRat_self]
 have hd:((q.den:Nat):Rat)≠0:=fun e=>q.den_nz (Rat.natCast_inj.1 e)
 rw[Rat.mul_comm]
 have h2:(q.num:Rat) / ((q.den:Nat):Rat) * ((q.den:Nat):Rat)=(q.num:Rat):=Rat.div_mul_cancel hd
 rw[←h] at h2
 exact h2
theorem ints_of{N:Nat}:∀(l:LR_),(∀q∈l,qlen q≤N)→∃c:Nat,0 < c∧c≤pw (N * l.length)∧Ints (ag_ ((c:Nat):Rat) l) (pw (N * l.length))
 | [],_=>⟨1,by decide,Nat.le_refl _,fun i=>⟨0,rfl,Nat.zero_le _⟩⟩
 | x :: l,h=>by
   obtain⟨c,h1,h2,h3⟩:=ints_of l (fun q hq=>h q (List.mem_cons_of_mem _ hq))
   have hx:=h x (List.mem_cons_self ..)
   have e:pw (N * (x :: l).length)=pw N * pw (N * l.length):=by rw[List.length_cons,Nat.mul_add,Nat.mul_one,Nat.add_comm,ff_]
   refine ⟨x.den * c,Nat.mul_pos x.den_pos h1,?_,fun i=>?_⟩
   ·rw[e];exact Nat.mul_le_mul (den_lt hx) h2
   ·rw[aj_,Rat.natCast_mul,e]
    cases i with
    | zero=>
      refine ⟨x.num * (c:Int),?_,?_⟩
      ·have:=den_mul x
       rw[ii_,Rat.intCast_mul,Rat.intCast_natCast,←this];grind
      ·rw[Int.natAbs_mul,Int.natAbs_natCast]
       exact Nat.mul_le_mul (num_lt hx) h2
    | succ i=>
      obtain⟨z,g1,g2⟩:=h3 i
      refine ⟨(x.den:Int) * z,?_,?_⟩
      ·rw[aj_] at g1
       rw[ch_,Rat.intCast_mul,Rat.intCast_natCast,←g1];grind
      ·rw[Int.natAbs_mul,Int.natAbs_natCast]
       exact Nat.mul_le_mul (den_lt hx) g2
structure DivZ (A B Q R:LR_) (k:Rat) (n s S M t:Nat):Prop where
 sum:peq A (padd (pmul Q B) R)
 right:ah_ R=R
 way:t+R.length≤n
 most:t≤n+1 - B.length
 form:∃(y:Int) (T:LR_),y≠0∧y.natAbs≤pw (t * S)∧Ints T (pw (s+t * (S+1)))∧peq (ag_ (y:Rat) R) (ag_ k T)
 qs:∀q∈Q,qlen q≤M
 free:∀i,i+B.length≤R.length→co Q i=0
theorem DivZ.start{A B R P:List Rat}{k:Rat}{n s S M:Nat}(hR:ah_ A=R)(hn:R.length≤n)(hP:Ints P (pw s))(hA:peq A (ag_ k P)):DivZ A B [] R k n s S M 0:=by
 subst hR
 refine ⟨fun i=>by rw[bf_,pmul,ef_,ar_];grind,a9_ A,by omega,by omega,⟨1,P,by decide,?_,?_,fun i=>?_⟩,fun q hq=>by simp at hq,fun _ _=>rfl⟩
 ·rw[Nat.zero_mul];exact Nat.le_refl _
 ·rw[Nat.zero_mul];exact hP
 ·rw[aj_,ar_,hA i]
  show (1:Rat) * _=_
  rw[Rat.one_mul]
structure DivL (B Z:LR_) (l:Rat) (z:Int) (S:Nat):Prop where
 right:ah_ B=B
 pos:0 < B.length
 ints:Ints Z (pw S)
 form:peq B (ag_ l Z)
 top:co Z (B.length - 1)=(z:Rat)
 nz:z≠0
 zle:z.natAbs≤pw S
 lnz:l≠0
theorem DivL.of{B Z:List Rat}{l:Rat}{S:Nat}(hB:ah_ B=B)(h0:0 < B.length)(hZ:Ints Z (pw S))(h:peq B (ag_ l Z)):∃z,DivL B Z l z S:=by
 obtain⟨z,h1,h2⟩:=hZ (B.length - 1)
 have h3:=f8_ hB h0
 have h4:=h (B.length - 1)
 rw[aj_,h1] at h4
 have h5:l * (z:Rat)≠0:=fun e=>h3 (h4.trans e)
 refine ⟨z,hB,h0,hZ,h,h1,fun e=>h5 (by rw[e];show l * 0=0;grind),h2,fun e=>h5 (by rw[e];grind)⟩
theorem eq_{z:Int}(h:z≠0):(z:Rat)≠0:=fun e=>h (Rat.intCast_inj.1 e)
theorem DivZ.rlen{A B Q R:List Rat}{k:Rat}{n s S M t:Nat}(h:DivZ A B Q R k n s S M t):∀q∈R,qlen q≤qlen k+(s+t * (S+1))+3:=by
 obtain⟨y,T,h1,h2,h3,h4⟩:=h.form
 refine cg_ fun i=>?_
 obtain⟨z,g1,g2⟩:=h3 i
 have e:=h4 i
 rw[aj_,aj_,g1] at e
 have hy:=eq_ h1
 have e2:co R i=k * ((z:Rat) / (y:Rat)):=by
  have e3:(z:Rat) / (y:Rat) * (y:Rat)=(z:Rat):=Rat.div_mul_cancel hy
  have e4:(y:Rat) * (co R i - k * ((z:Rat) / (y:Rat)))=0:=by grind
  rcases Rat.mul_eq_zero.1 e4 with g | g
  ·exact absurd g hy
  ·grind
 rw[e2]
 have q1:=cu_ k ((z:Rat) / (y:Rat))
 have q2:=db_ (t:=s+t * (S+1)) g2 (Nat.le_trans h2 (cn_ (by rw[Nat.mul_add];omega)))
 omega
theorem DivZ.clen{A B Q R Z:List Rat}{k l:Rat}{z:Int}{n s S M t:Nat}(h:DivZ A B Q R k n s S M t)(hl:DivL B Z l z S):qlen (R.getD (R.length - 1) 0 / B.getD (B.length - 1) 0)≤qlen k+qlen l+(s+(t+1) * (S+1))+4:=by
 obtain⟨y,T,h1,h2,h3,h4⟩:=h.form
 obtain⟨x,g1,g2⟩:=h3 (R.length - 1)
 have e:=h4 (R.length - 1)
 rw[aj_,aj_,g1] at e
 have eb:=hl.form (B.length - 1)
 rw[aj_,hl.top] at eb
 have hy:=eq_ h1
 have hz:=eq_ hl.nz
 have hlz:=hl.lnz
 have hyz:y * z≠0:=fun e=>by rcases Int.mul_eq_zero.1 e with g | g;exact h1 g;exact hl.nz g
 have e2:R.getD (R.length - 1) 0 / B.getD (B.length - 1) 0=k / l * ((x:Rat) / ((y * z:Int):Rat)):=by
  have b0:B.getD (B.length - 1) 0=l * (z:Rat):=eb
  have r0:(y:Rat) * R.getD (R.length - 1) 0=k * (x:Rat):=e
  rw[b0,Rat.intCast_mul,Rat.div_def,Rat.div_def,Rat.div_def]
  have i1:(l * (z:Rat)) * (l * (z:Rat))⁻¹=1:=Rat.mul_inv_cancel _ (fun e=>by rcases Rat.mul_eq_zero.1 e with g | g;exact hlz g;exact hz g)
  have i2:l * l⁻¹=1:=Rat.mul_inv_cancel _ hlz
  have i3:((y:Rat) * (z:Rat)) * ((y:Rat) * (z:Rat))⁻¹=1:=Rat.mul_inv_cancel _ (fun e=>by rcases Rat.mul_eq_zero.1 e with g | g;exact hy g;exact hz g)
  generalize (l * (z:Rat))⁻¹=u at *
  generalize l⁻¹=l' at *
  generalize ((y:Rat) * (z:Rat))⁻¹=w at *
  generalize R.getD (R.length - 1) 0=r at *
  have e5:l * (z:Rat) * (y:Rat) * (r * u - k * l' * ((x:Rat) * w))=0:=by grind
  rcases Rat.mul_eq_zero.1 e5 with g | g
  ·rcases Rat.mul_eq_zero.1 g with g | g
   ·rcases Rat.mul_eq_zero.1 g with g | g
    ·exact absurd g hlz
    ·exact absurd g hz
   ·exact absurd g hy
  ·grind
 rw[e2]
 have q1:=cu_ (k / l) ((x:Rat) / ((y * z:Int):Rat))
 have q2:=ky_ k l
 have q3:=db_ (z:=x) (y:=y * z) (t:=s+(t+1) * (S+1)) (Nat.le_trans g2 (cn_ (by rw[Nat.add_mul];omega))) (by
  rw[Int.natAbs_mul]
  refine Nat.le_trans (Nat.mul_le_mul h2 hl.zle) ?_
  rw[←ff_]
  exact cn_ (by rw[Nat.add_mul,Nat.mul_add,Nat.one_mul];omega))
 omega
theorem two_pw(a:Nat):pw a+pw a≤pw (a+1):=by
 rw[ff_,rc_]
 omega
theorem DivZ.step{A B Q R Z Q' X R':List Rat}{k l c:Rat}{z:Int}{n s S M t:Nat}(h:DivZ A B Q R k n s S M t)(hl:DivL B Z l z S)(hle:B.length≤R.length)(hM:qlen k+qlen l+(s+(n+1 - B.length) * (S+1))+4≤M)
 (hc:c=R.getD (R.length - 1) 0 / B.getD (B.length - 1) 0) (hQ:peq Q' (padd Q (shot (R.length - B.length) c))) (hX:peq X (pmul (shot (R.length - B.length) c) B)) (hR:peq R' (psub R X)) (hr:ah_ R'=R') :
 DivZ A B Q' R' k n s S M (t+1)∧R'.length < R.length:=by
 obtain⟨g1,g2⟩:=k2_ hl.right hl.pos hle h.sum hc hQ hX hR hr
 have hw:=h.way
 have hp:=hl.pos
 have hcl:qlen c≤M:=by
  rw[hc]
  refine Nat.le_trans (h.clen hl) (Nat.le_trans ?_ hM)
  have:(t+1) * (S+1)≤(n+1 - B.length) * (S+1):=Nat.mul_le_mul_right _ (by omega)
  omega
 refine ⟨⟨g1,hr,by omega,by omega,?_,cg_ fun i=>?_,fun i hi=>?_⟩,g2⟩
 ·obtain⟨y,T,h1,h2,h3,h4⟩:=h.form
  obtain⟨x,x1,x2⟩:=h3 (R.length - 1)
  refine ⟨z * y,psub (ag_ (z:Rat) T) (ag_ (x:Rat) (pmul (shot (R.length - B.length) 1) Z)),fun e=>by rcases Int.mul_eq_zero.1 e with g | g;exact hl.nz g;exact h1 g,?_,fun i=>?_,fun i=>?_⟩
  ·rw[Int.natAbs_mul]
   refine Nat.le_trans (Nat.mul_le_mul hl.zle h2) ?_
   rw[←ff_]
   exact cn_ (by rw[Nat.add_mul];omega)
  ·obtain⟨u,u1,u2⟩:=h3 i
   have hb:pw S * pw (s+t * (S+1))+pw S * pw (s+t * (S+1))≤pw (s+(t+1) * (S+1)):=by
    rw[←ff_]
    refine Nat.le_trans (two_pw _) (cn_ ?_)
    rw[Nat.add_mul];omega
   by_cases hi:R.length - B.length≤i
   ·obtain⟨v,v1,v2⟩:=hl.ints (i - (R.length - B.length))
    refine ⟨z * u - x * v,?_,?_⟩
    ·rw[d6_,aj_,aj_,dr_,if_pos hi,u1,v1,Rat.intCast_sub,Rat.intCast_mul,Rat.intCast_mul,Rat.one_mul]
    ·have a1:(z * u).natAbs≤pw S * pw (s+t * (S+1)):=by rw[Int.natAbs_mul];exact Nat.mul_le_mul hl.zle u2
     have a2:(x * v).natAbs≤pw S * pw (s+t * (S+1)):=by rw[Int.natAbs_mul,Nat.mul_comm];exact Nat.mul_le_mul v2 x2
     omega
   ·refine ⟨z * u,?_,?_⟩
    ·rw[d6_,aj_,aj_,dr_,if_neg hi,u1,Rat.intCast_mul];grind
    ·have a1:(z * u).natAbs≤pw S * pw (s+t * (S+1)):=by rw[Int.natAbs_mul];exact Nat.mul_le_mul hl.zle u2
     omega
  ·have e:=h4 i
   have et:=h4 (R.length - 1)
   have eb:=hl.form (B.length - 1)
   rw[aj_,aj_] at e et
   rw[aj_,hl.top] at eb
   rw[x1] at et
   have b0:B.getD (B.length - 1) 0=l * (z:Rat):=eb
   have r0:(y:Rat) * R.getD (R.length - 1) 0=k * (x:Rat):=et
   have bn:=f8_ hl.right hl.pos
   have c0:c * B.getD (B.length - 1) 0=R.getD (R.length - 1) 0:=by rw[hc];exact Rat.div_mul_cancel bn
   rw[b0] at c0
   rw[aj_,aj_,hR i,d6_,hX i,dr_,d6_,aj_,aj_,dr_,Rat.intCast_mul]
   generalize R.getD (R.length - 1) 0=rt at *
   split
   ·have ef:=hl.form (i - (R.length - B.length))
    rw[aj_] at ef
    rw[ef]
    grind
   ·grind
 ·rw[hQ i,bf_,ey_]
  by_cases h3:i=R.length - B.length
  ·rw[if_pos h3,h3,h.free _ (by omega),Rat.zero_add];exact hcl
  ·rw[if_neg h3,Rat.add_zero]
   rcases Nat.lt_or_ge i Q.length with h5 | h5
   ·exact h.qs _ (f4_ h5)
   ·rw[dk_ h5,cy_];omega
 ·rw[hQ i,bf_,ey_,if_neg (by omega),h.free i (by omega)];grind
end Go.Proofs.YtocebjbjnfammaaGreat
