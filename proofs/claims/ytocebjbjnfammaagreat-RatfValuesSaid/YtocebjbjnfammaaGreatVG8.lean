import Derived.Test.YtocebjbjnfammaaGreatVG7
import Derived.Test.YtocebjbjnfammaaGreatVG5
import Derived.Test.YtocebjbjnfammaaGreatVG1
set_option maxRecDepth 4096
set_option maxHeartbeats 16000000
namespace Go.Proofs.YtocebjbjnfammaaGreat
open Go.RowKit
def Pv (w:World) (a:OA_) (n c:Nat) (P:LR_) (N:Nat):Prop:=∃L,Fxs w a n c L∧fqs L=P∧thin N L
theorem Pv.later{w w':World}{a:Option Addr}{n c N:Nat}{P:List Rat}(h:Pv w a n c P N)(hb:Below w.heap.size w w'):Pv w' a n c P N:=by
 obtain⟨L,h1,h2⟩:=h
 exact⟨L,h1.later hb,h2⟩
theorem Pv.l_ {w w':World}{x0 x1 x2 x3 x4}(h:Pv w x0 x1 x2 x3 x4)(b:Below w.heap.size w w'):Hid (Pv w' x0 x1 x2 x3 x4):=Lib.hid (h.later b)
theorem Pv.len{w:World}{a:Option Addr}{n c N:Nat}{P:List Rat}(h:Pv w a n c P N):P.length=n:=by
 obtain⟨L,h1,rfl,_⟩:=h
 rw[ap_];exact h1.len
theorem Pv.bound{w:World}{a:Option Addr}{n c N:Nat}{P:List Rat}(h:Pv w a n c P N):n≤c∧c≤9223372036854775807:=by
 obtain⟨L,h1,_⟩:=h
 exact h1.bound
theorem Pv.of{w:World}{a:Option Addr}{n c N:Nat}{L:List Fx}(h:Fxs w a n c L)(ht:thin N L):Pv w a n c (fqs L) N:=⟨L,h,rfl,ht⟩
theorem Pv.right{w:World}{a:Option Addr}{n c N:Nat}{P:List Rat}(h:Rw w a n c P)(hq:∀q∈P,qlen q≤N):Pv w a n c P N:=by
 obtain⟨L,h1,h2,h3⟩:=h.thin hq
 exact⟨L,h1,h2,h3⟩
theorem Pv.nil(w:World)(N:Nat):Pv w none 0 0 [] N:=⟨[],⟨rfl,Nat.le_refl _,by omega,fun _=>rfl,fun x hx=>by (simp at hx),.inl rfl⟩,rfl,fun x hx=>by simp at hx⟩
theorem Pv.more{w:World}{a:Option Addr}{n c N K:Nat}{P:List Rat}(h:Pv w a n c P N)(hk:N≤K):Pv w a n c P K:=by
 obtain⟨L,h1,h2,h3⟩:=h
 exact⟨L,h1,h2,h3.mono hk⟩
theorem Pv.qlen{w:World}{a:Option Addr}{n c N:Nat}{P:List Rat}(h:Pv w a n c P N):∀q∈P,Go.Proofs.YtocebjbjnfammaaGreat.qlen q≤N+1:=by
 obtain⟨L,h1,rfl,h3⟩:=h
 intro q hq
 obtain⟨x,hx,rfl⟩:=List.mem_map.1 hq
 exact ((h1.ok hx).fr (h3 x hx).1 (h3 x hx).2).len
theorem norm_pv(S:PolySaid){w:World}{a:Option Addr}{n c N:Nat}{P:List Rat}(h:Pv w a n c P N)(hn:n≤300)(hN:N≤1900000000):Calls Tryz.prog 95 #[.slice a n c] w (ds_ (ai_ P) w):=by
 obtain⟨L,h1,rfl,h3⟩:=h
 exact S.norm a n c L w h1 hn (h3.mono (by omega))
theorem g1_(S:PolySaid){w:World}{a:Option Addr}{n c N:Nat}{P:List Rat}(h:Pv w a n c P N)(hn:n≤300)(hN:N≤1900000000):Calls Tryz.prog 61 #[.slice a n c] w (bg_ (.int .i64 ((plen P:Int) - 1)) w):=by
 obtain⟨L,h1,rfl,h3⟩:=h
 exact S.degree a n c L w h1 hn (h3.mono (by omega))
theorem same_pv(S:PolySaid){w:World}{a b:Option Addr}{n c m d N K:Nat}{P Q:List Rat}(h:Pv w a n c P N)(k:Pv w b m d Q K)(hn:n≤300)(hm:m≤300)(hN:N≤1900000000)(hK:K≤1900000000):Calls Tryz.prog 74 #[.slice a n c,.slice b m d] w (bg_ (.bool (decide (ai_ P=ai_ Q))) w):=by
 obtain⟨L,h1,rfl,h3⟩:=h
 obtain⟨M,k1,rfl,k3⟩:=k
 exact S.same a n c L b m d M w h1 k1 hn hm (h3.mono hN) (k3.mono hK)
theorem add_pv(S:PolySaid){w:World}{a b:Option Addr}{n c m d N K:Nat}{P Q:List Rat}(h:Pv w a n c P N)(k:Pv w b m d Q K)(hn:n≤300)(hm:m≤300)(hN:N≤900000000)(hK:K≤900000000):Calls Tryz.prog 83 #[.slice a n c,.slice b m d] w (ds_ (ai_ (padd P Q)) w):=by
 obtain⟨L,h1,rfl,h3⟩:=h
 obtain⟨M,k1,rfl,k3⟩:=k
 exact S.add a n c L b m d M w h1 k1 hn hm (h3.mono hN) (k3.mono hK)
theorem k3_(S:PolySaid){w:World}{a b:Option Addr}{n c m d N K:Nat}{P Q:List Rat}(h:Pv w a n c P N)(k:Pv w b m d Q K)(hn:n≤100)(hm:m≤100)(hb:(n+1) * (N+K+8)≤1900000000):Calls Tryz.prog 75 #[.slice a n c,.slice b m d] w (ds_ (ai_ (pmul P Q)) w):=by
 obtain⟨L,h1,rfl,h3⟩:=h
 obtain⟨M,k1,rfl,k3⟩:=k
 exact S.mul a n c L b m d M N K w h1 k1 hn hm h3 k3 hb
theorem eval_pv(S:PolySaid){w:World}{a:Option Addr}{n c N X:Nat}{P:List Rat}{v:Value}{q:Rat}(h:Pv w a n c P N)(k:Fr w v q X)(hn:n≤100)(hb:(n+1) * ((n+1) * (X+8)+N+8)≤1900000000):Calls Tryz.prog 112 #[.slice a n c,v] w (LstQ (al_ q P) w):=by
 obtain⟨L,h1,rfl,h3⟩:=h
 exact S.eval a n c L v q N X w h1 k hn h3 hb
def ppow (u:LR_):Nat→List Rat
 | 0=>[1]
 | k+1=>pmul (ppow u k) u
theorem isF.times{A B x y u v x' y':List Rat}(h:isF A B x y)(hB:plen B≠0)(hv:plen v≠0)(h':isF (pmul x u) (pmul y v) x' y'):isF (pmul A u) (pmul B v) x' y':=by
 refine h'.cross (hb_ h.1.v0 hv) (hb_ hB hv) (ao_ fun z=>?_)
 have e:=ak_ z (h.2.2 hB)
 simp only[ac_] at e ⊢
 grind
theorem Fz.pow{u v:List Rat}{h r:Nat}(f:Fz u v h r)(hh:h≤1000):∀k,k≤100→Fz (ppow u k) (ppow v k) (1+k * h) (2+k * (r+2))
 | 0,_=>by
   have hq1:∀x∈[(1:Rat)],Go.Proofs.YtocebjbjnfammaaGreat.qlen x≤1:=fun x hx=>by
    rw[List.mem_singleton.1 hx]
    refine fr_ ?_ ?_
    ·show (dg 1).length≤1
     rw[jn_ (by decide) (by decide)];exact Nat.le_refl _
    ·show (dg 1).length≤1
     rw[jn_ (by decide) (by decide)];exact Nat.le_refl _
   exact Fz.of (N:=1) (n:=1) (m:=1) hq1 hq1 (Nat.le_refl 1) (Nat.le_refl 1) (by omega) (by omega) (by omega)
 | k+1,hk=>by
   have h1:k * h≤100 * 1000:=Nat.mul_le_mul (by omega) hh
   have:=(f.pow hh k (by omega)).mul f (by omega)
   rw[Nat.add_mul,Nat.one_mul,Nat.add_mul,Nat.one_mul]
   exact this.mono (by omega) (by omega)
def LstFV (U V:LR_) (z:Value) (w:World) (e:Ending) (w':World):Prop:=∃(a:OA_) (n c:Nat) (u:LR_) (b:OA_) (m d:Nat) (v:LR_),e=.returned (.tuple #[.agg #[.slice a n c,.slice b m d],z])∧Rw w' a n c u∧Rw w' b m d v∧isF U V u v∧Below w.heap.size w w'
def Fv (w:World) (a:OA_) (n c:Nat) (b:OA_) (m d:Nat) (u v:LR_) (h s:Nat):Prop:=∃U V,Pv w a n c U (s+2)∧Pv w b m d V (s+2)∧isF U V u v∧Fz U V h s∧Fz u v h s
theorem Fv.later{w w':World}{a:Option Addr}{n c:Nat}{b:Option Addr}{m d:Nat}{u v:List Rat}{h s:Nat}(f:Fv w a n c b m d u v h s)(hb:Below w.heap.size w w'):Fv w' a n c b m d u v h s:=by
 obtain⟨U,V,h1,h2,h3⟩:=f
 exact⟨U,V,h1.later hb,h2.later hb,h3⟩
theorem Fv.l_ {w w':World}{x0 x1 x2 x3 x4 x5 x6 x7 x8 x9}(h:Fv w x0 x1 x2 x3 x4 x5 x6 x7 x8 x9)(b:Below w.heap.size w w'):Hid (Fv w' x0 x1 x2 x3 x4 x5 x6 x7 x8 x9):=Lib.hid (h.later b)
theorem Fv.mono{w:World}{a:Option Addr}{n c:Nat}{b:Option Addr}{m d:Nat}{u v:List Rat}{h s h' s':Nat}(f:Fv w a n c b m d u v h s)(hh:h≤h')(hs:s≤s'):Fv w a n c b m d u v h' s':=by
 obtain⟨U,V,h1,h2,h3,h4,h5⟩:=f
 exact⟨U,V,h1.more (by omega),h2.more (by omega),h3,h4.mono hh hs,h5.mono hh hs⟩
theorem Fv.rf{w:World}{a:Option Addr}{n c:Nat}{b:Option Addr}{m d:Nat}{u v:List Rat}{h s:Nat}(f:Fv w a n c b m d u v h s):Rf u v:=by
 obtain⟨U,V,h1,h2,h3,_⟩:=f
 exact h3.1
theorem Fv.raw{w:World}{a:Option Addr}{n c:Nat}{b:Option Addr}{m d:Nat}{U V u v:List Rat}{h s N:Nat}(hU:Pv w a n c U N)(hV:Pv w b m d V N)(hN:N≤s+2)(hf:isF U V u v)(hz:Fz U V h s)(h1:1≤h)(h2:h≤1000000):Fv w a n c b m d u v h ((s+1) * (2 * h)):=by
 have h3:s≤(s+1) * (2 * h):=Nat.le_trans (Nat.le_succ s) (Nat.le_mul_of_pos_right _ (by omega))
 exact⟨U,V,hU.more (by omega),hV.more (by omega),hf,hz.mono (Nat.le_refl _) h3,hz.right hf h1 h2⟩
theorem Fv.right{w:World}{a:Option Addr}{n c:Nat}{b:Option Addr}{m d:Nat}{u v:List Rat}{h s:Nat}(hu:Rw w a n c u)(hv:Rw w b m d v)(hf:Rf u v)(hz:Fz u v h s)(_:s+2≤1900000000):Fv w a n c b m d u v h s:=⟨u,v,Pv.right hu (fun q hq=>hz.qlen q hq),Pv.right hv (fun q hq=>hz.swap.qlen q hq),hf.isF,hz,hz⟩
abbrev Fok2 (h s k t:Nat):Prop:=Fok (h+k+2) (s+t+30)∧Pok (2 * max h k) (2 * ((s+t+1) * (2 * max h k+1))+3)
structure RatfSaid:Prop where
 of:∀(x:Value) (q:Rat) (X:Nat) (w:World),Fr w x q X→Fok 2 ((X+1) * 3)→Calls Tryz.prog 28 #[x] w (LstF [q] [1] w)
 line:∀(x:Value) (q:Rat) (y:Value) (r:Rat) (X:Nat) (w:World),Fr w x q X→Fr w y r X→Fok 2 ((X+1) * 3)→Calls Tryz.prog 46 #[x,y] w (LstF [q,r] [1] w)
 zero:∀(a:OA_) (n c:Nat) (b:OA_) (m d:Nat) (u v:LR_) (h s:Nat) (w:World),Fv w a n c b m d u v h s→Fok h s→Calls Tryz.prog 23 #[.agg #[.slice a n c,.slice b m d]] w (bg_ (.bool (decide (u=[]))) w)
 same:∀(a:OA_) (n c:Nat) (b:OA_) (m d:Nat) (u v:LR_) (h s:Nat) (a':OA_) (n' c':Nat) (b':OA_) (m' d':Nat) (x y:LR_) (k t:Nat) (w:World),Fv w a n c b m d u v h s→Fv w a' n' c' b' m' d' x y k t→Fok h s→Fok k t→(h+k+1) * (s+t+20)≤1900000000→Calls Tryz.prog 24 #[.agg #[.slice a n c,.slice b m d],.agg #[.slice a' n' c',.slice b' m' d']] w (bg_ (.bool (decide (u=x∧v=y))) w)
 add:∀(a:OA_) (n c:Nat) (b:OA_) (m d:Nat) (u v:LR_) (h s:Nat) (a':OA_) (n' c':Nat) (b':OA_) (m' d':Nat) (x y:LR_) (k t:Nat) (w:World),Fv w a n c b m d u v h s→Fv w a' n' c' b' m' d' x y k t→Fok2 h s k t→Calls Tryz.prog 35 #[.agg #[.slice a n c,.slice b m d],.agg #[.slice a' n' c',.slice b' m' d']] w (LstF (padd (pmul u y) (pmul x v)) (pmul v y) w)
 sub:∀(a:OA_) (n c:Nat) (b:OA_) (m d:Nat) (u v:LR_) (h s:Nat) (a':OA_) (n' c':Nat) (b':OA_) (m' d':Nat) (x y:LR_) (k t:Nat) (w:World),Fv w a n c b m d u v h s→Fv w a' n' c' b' m' d' x y k t→Fok2 h s k t→Calls Tryz.prog 37 #[.agg #[.slice a n c,.slice b m d],.agg #[.slice a' n' c',.slice b' m' d']] w (LstF (psub (pmul u y) (pmul x v)) (pmul v y) w)
 mul:∀(a:OA_) (n c:Nat) (b:OA_) (m d:Nat) (u v:LR_) (h s:Nat) (a':OA_) (n' c':Nat) (b':OA_) (m' d':Nat) (x y:LR_) (k t:Nat) (w:World),Fv w a n c b m d u v h s→Fv w a' n' c' b' m' d' x y k t→Fok2 h s k t→Calls Tryz.prog 38 #[.agg #[.slice a n c,.slice b m d],.agg #[.slice a' n' c',.slice b' m' d']] w (LstF (pmul u x) (pmul v y) w)
 quo:∀(a:OA_) (n c:Nat) (b:OA_) (m d:Nat) (u v:LR_) (h s:Nat) (a':OA_) (n' c':Nat) (b':OA_) (m' d':Nat) (x y:LR_) (k t:Nat) (w:World),Fv w a n c b m d u v h s→Fv w a' n' c' b' m' d' x y k t→Fok2 h s k t→Calls Tryz.prog 29 #[.agg #[.slice a n c,.slice b m d],.agg #[.slice a' n' c',.slice b' m' d']] w (LstFV (pmul u y) (pmul v x) (.bool (decide (x≠[]))) w)
 eval_yes:∀(a:OA_) (n c:Nat) (b:OA_) (m d:Nat) (u v:LR_) (h s:Nat) (x:Value) (q:Rat) (X:Nat) (w:World),Fv w a n c b m d u v h s→Fr w x q X→Fok h s→(h+1) * ((h+1) * (X+8)+(s+3)+8)≤1900000000→al_ q v≠0→Calls Tryz.prog 16 #[.agg #[.slice a n c,.slice b m d],x] w (di_ (al_ q u / al_ q v) (.bool true) w)
 eval_no:∀(a:OA_) (n c:Nat) (b:OA_) (m d:Nat) (u v:LR_) (h s:Nat) (x:Value) (q:Rat) (X:Nat) (w:World),Fv w a n c b m d u v h s→Fr w x q X→Fok h s→(h+1) * ((h+1) * (X+8)+(s+3)+8)≤1900000000→al_ q v=0→Calls Tryz.prog 16 #[.agg #[.slice a n c,.slice b m d],x] w (di_ 0 (.bool false) w)
theorem ra_{A B:List Rat}(hB:ai_ B=B)(h0:0 < B.length):∀(n:Nat) (Q R:LR_),R.length≤n→ai_ R=R→peq A (padd (pmul Q B) R)→∃q r,isDiv A B q r∧ai_ r=r:=by
 intro n
 induction n with
 | zero=>exact fun Q R hn hr h=>⟨Q,R,⟨h,by rw[a1_ hr,a1_ hB];omega⟩,hr⟩
 | succ n ih=>
   intro Q R hn hr h
   by_cases hl:R.length < B.length
   ·exact⟨Q,R,⟨h,by rw[a1_ hr,a1_ hB];exact hl⟩,hr⟩
   ·obtain⟨h1,h2⟩:=mf_ hB h0 (by omega) h rfl (peq.refl _) (peq.refl _) (au_ _) (a9_ _)
    exact ih _ _ (by omega) (a9_ _) h1
theorem mn_:∀(n:Nat) (x y:LR_),y.length≤n→ai_ x=x→ai_ y=y→∃g,common x y g:=by
 intro n
 induction n with
 | zero=>
   intro x y hn _ _
   obtain rfl:y=[]:=List.length_eq_zero_iff.1 (by omega)
   exact⟨x,common.none x⟩
 | succ n ih=>
   intro x y hn hx hy
   by_cases h0:y.length=0
   ·obtain rfl:y=[]:=List.length_eq_zero_iff.1 h0
    exact⟨x,common.none x⟩
   ·obtain⟨q,r,hd,hr⟩:=ra_ (A:=x) hy (by omega) x.length [] x (Nat.le_refl _) hx (ao_ fun z=>by rw[av_,ac_];show _=0 * _+_;grind)
    have h1:r.length < y.length:=by
     have:=hd.2
     rwa [a1_ hr,a1_ hy] at this
    obtain⟨g,hg⟩:=ih y r (by omega) hy hr
    exact⟨g,common.step hd.1 hg⟩
theorem en_(U V:LR_):∃u v,isF U V u v:=by
 by_cases hV:plen V=0
 ·exact⟨[],[1],ky_ (.inr hV)⟩
 ·obtain⟨g,hg⟩:=mn_ _ (ai_ U) (ai_ V) (Nat.le_refl _) (a9_ _) (a9_ _)
  have hc:=hg.of (au_ U) (au_ V) (peq.refl g)
  obtain⟨y,hy⟩:=hc.2.1
  have hg0:plen g≠0:=fun e=>hV (by rw[am_ hy,am_ (ax_ (peq.refl y) (cm_ e)),am_ (dl_ y)];rfl)
  have ht:=dm_ (a:=g) (n:=plen g - 1) (by omega)
  obtain⟨c,hcd⟩:∃c,1 / co g (plen g - 1)=c:=⟨_,rfl⟩
  have hcg:c * co g (plen g - 1)=1:=by rw[←hcd];exact Rat.div_mul_cancel ht
  have hc0:c≠0:=fun e=>by rw[e,Rat.zero_mul] at hcg;exact absurd hcg (by decide)
  have h2:isGcd U V (ag_ c g):=⟨hc.scale hc0,fun n hn=>by
   have h3:plen (ag_ c g)=plen g:=ba_ hc0 g
   have h4:n=plen g - 1:=by omega
   rw[ah_,h4];exact hcg⟩
  obtain⟨x',hx'⟩:=h2.1.1
  obtain⟨y',hy'⟩:=h2.1.2.1
  exact⟨_,_,isF_gcd h2 hV hx' hy' rfl⟩
structure Rz (u v:LR_) (k l s:Nat):Prop where
 rf:Rf u v
 lu:plen u≤k
 lv:plen v≤l
 fz:Fz u v (max k l) s
theorem Rz.of{U V u v:List Rat}{h s k l:Nat}(f:Fz U V h s)(hf:isF U V u v)(hU:plen U≤k)(hV:plen V≤l)(hl:1≤l)(hkl:k+l≤1000000):Rz u v k l ((s+1) * (k+l)):=by
 have p1:1≤pw ((s+1) * (k+l)):=et_ _
 by_cases hV0:plen V=0
 ·obtain⟨rfl,rfl⟩:=hf.zero (.inr hV0)
  have h1:plen ([1]:LR_)=1:=el_ (by decide)
  refine ⟨hf.1,by rw[hp_];exact Nat.zero_le _,by rw[h1];exact hl,by simp,by simp;omega,1,by decide,p1,fun i=>⟨0,rfl,Nat.zero_le _⟩,fun i=>?_⟩
  cases i with
  | zero=>exact⟨1,by rw[ah_,show co [1] 0=(1:Rat) from rfl,Rat.mul_one];rfl,p1⟩
  | succ i=>exact⟨0,by rw[ah_,bz_,d3_,Rat.mul_zero];rfl,Nat.zero_le _⟩
 ·obtain⟨c,c1,c2,c3,c4⟩:=f.form
  obtain⟨l1,l2⟩:=hf.lens hV0
  have l5:=a1_ hf.1.ur
  have l6:=a1_ hf.1.vr
  obtain⟨z,k0,k1,k2,k3⟩:=hf.small hV0 (c:=((c:Nat):Rat)) (fun e=>by have h9:c=0:=Rat.natCast_inj.1 (e.trans rfl);omega) c3 c4 (by omega)
  have hp:pw ((s+1) * (plen u+plen v))≤pw ((s+1) * (k+l)):=b9_ (Nat.mul_le_mul_left _ (by omega))
  exact⟨hf.1,by omega,by omega,by omega,by omega,z.natAbs,by omega,Nat.le_trans k1 hp,k2.abs.mono hp,k3.abs.mono hp⟩
theorem Rz.mono{u v:List Rat}{k l s k' l' s':Nat}(f:Rz u v k l s)(hk:k≤k')(hl:l≤l')(hs:s≤s'):Rz u v k' l' s':=⟨f.rf,Nat.le_trans f.lu hk,Nat.le_trans f.lv hl,f.fz.mono (by omega) hs⟩
theorem Fz.minus{u v:List Rat}{h s:Nat}(f:Fz u v h s):Fz (ag_ (-1) u) v h s:=by
 obtain⟨a,b,c,c1,c2,c3,c4⟩:=f
 refine ⟨by rw[a5_];exact a,b,c,c1,c2,fun i=>?_,c4⟩
 obtain⟨z,z1,z2⟩:=c3 i
 refine ⟨-z,?_,by rw[Int.natAbs_neg];exact z2⟩
 rw[ah_] at z1
 rw[ah_,ah_,Rat.intCast_neg,←z1];grind
theorem Rz.add{u v x y a b:List Rat}{k l s k' l' t K D:Nat}(f:Rz u v k l s)(g:Rz x y k' l' t)(h:isF (padd (pmul u y) (pmul x v)) (pmul v y) a b)(hK:k+l' - 1≤K)(hK':k'+l - 1≤K)(hD:l+l' - 1≤D)(hD1:1≤D)(hl:K+D≤1000000)(hm:max k l≤1000000)(hm':max k' l'≤1000000) :
 Rz a b K D ((s+t+3) * (K+D)):=by
 have h1:=bx_ u y
 have h2:=bx_ x v
 have h3:=bx_ v y
 have h4:=f1_ (pmul u y) (pmul x v)
 have:=f.lu;have:=f.lv;have:=g.lu;have:=g.lv
 exact Rz.of (f.fz.add g.fz hm hm') h (by omega) (by omega) hD1 hl
theorem Rz.sub{u v x y a b:List Rat}{k l s k' l' t K D:Nat}(f:Rz u v k l s)(g:Rz x y k' l' t)(h:isF (psub (pmul u y) (pmul x v)) (pmul v y) a b)(hK:k+l' - 1≤K)(hK':k'+l - 1≤K)(hD:l+l' - 1≤D)(hD1:1≤D)(hl:K+D≤1000000)(hm:max k l≤1000000)(hm':max k' l'≤1000000) :
 Rz a b K D ((s+t+3) * (K+D)):=by
 have h1:=bx_ u y
 have h2:=bx_ (ag_ (-1) x) v
 have h3:=bx_ v y
 have h4:=f1_ (pmul u y) (pmul (ag_ (-1) x) v)
 have h5:plen (ag_ (-1) x)=plen x:=ba_ (by decide) x
 have:=f.lu;have:=f.lv;have:=g.lu;have:=g.lv
 refine Rz.of (f.fz.add g.fz.minus hm hm') (h.of (ao_ fun z=>?_) (peq.refl _)) (by omega) (by omega) hD1 hl
 rw[b2_,av_,ac_,ac_,ac_,an_];grind
theorem Rz.mul{u v x y a b:List Rat}{k l s k' l' t K D:Nat}(f:Rz u v k l s)(g:Rz x y k' l' t)(h:isF (pmul u x) (pmul v y) a b)(hK:k+k' - 1≤K)(hD:l+l' - 1≤D)(hD1:1≤D)(hl:K+D≤1000000)(hm:max k l≤1000000) :
 Rz a b K D ((s+t+3) * (K+D)):=by
 have h1:=bx_ u x
 have h3:=bx_ v y
 have:=f.lu;have:=f.lv;have:=g.lu;have:=g.lv
 exact Rz.of (f.fz.mul g.fz hm) h (by omega) (by omega) hD1 hl
theorem Rz.quo{u v x y a b:List Rat}{k l s k' l' t K D:Nat}(f:Rz u v k l s)(g:Rz x y k' l' t)(h:isF (pmul u y) (pmul v x) a b)(hK:k+l' - 1≤K)(hD:l+k' - 1≤D)(hD1:1≤D)(hl:K+D≤1000000)(hm:max k l≤1000000) :
 Rz a b K D ((s+t+3) * (K+D)):=by
 have h1:=bx_ u y
 have h3:=bx_ v x
 have:=f.lu;have:=f.lv;have:=g.lu;have:=g.lv
 exact Rz.of (f.fz.mul g.fz.swap hm) h (by omega) (by omega) hD1 hl
theorem Fr.len_max{w:World}{v:Value}{q:Rat}{N:Nat}(h:Fr w v q N)(hN:1≤N):qlen q≤N:=by
 obtain⟨neg,a,n,cap,la,b,m,cap',lb,rfl,ha,hb,hn,hm,rfl⟩:=h
 by_cases hv:val lb=0
 ·rw[d5_ neg (.inl hv)]
  refine fr_ ?_ ?_
  ·show (dg (0:Nat)).length≤_
   rw[cn_];exact Nat.zero_le _
  ·show (dg (1:Nat)).length≤_
   have:=ff_;omega
 ·obtain⟨h1,h2⟩:=e4_ neg (u:=val la) hv
  refine fr_ ?_ ?_
  ·rw[h1,d6_]
   exact Nat.le_trans (az_ (Nat.div_le_self _ _)) (Nat.le_trans ha.trim_le (by omega))
  ·rw[h2]
   exact Nat.le_trans (az_ (Nat.div_le_self _ _)) (Nat.le_trans hb.trim_le (by omega))
theorem Pv.qlen_max{w:World}{a:Option Addr}{n c N:Nat}{P:List Rat}(h:Pv w a n c P N)(hN:1≤N):∀q∈P,Go.Proofs.YtocebjbjnfammaaGreat.qlen q≤N:=by
 obtain⟨L,h1,rfl,h3⟩:=h
 intro q hq
 obtain⟨x,hx,rfl⟩:=List.mem_map.1 hq
 exact ((h1.ok hx).fr (h3 x hx).1 (h3 x hx).2).len_max hN
theorem Fv.arg{w:World}{a:Option Addr}{n c:Nat}{b:Option Addr}{m d:Nat}{U V u v:List Rat}{k:Nat}(hU:Pv w a n c U 1)(hV:Pv w b m d V 1)(hn:n≤k)(hm:m≤k)(h1:1≤k)(h2:k≤1000)(hf:isF U V u v):Fv w a n c b m d u v k ((k+k+1) * (2 * k))∧Rz u v k k ((k+k+1) * (k+k)):=by
 have hz:Fz U V k (k+k):=Fz.of (N:=1) (n:=k) (m:=k) (hU.qlen_max (Nat.le_refl _)) (hV.qlen_max (Nat.le_refl _)) (by rw[hU.len];exact hn) (by rw[hV.len];exact hm) (Nat.le_refl _) (Nat.le_refl _) (by omega)
 have l1:=a6_ U
 have l2:=a6_ V
 rw[hU.len] at l1
 rw[hV.len] at l2
 exact⟨Fv.raw hU hV (by omega) hf hz h1 (by omega),Rz.of hz hf (by omega) (by omega) h1 (by omega)⟩
theorem Rz.fv{w:World}{a:Option Addr}{n c:Nat}{b:Option Addr}{m d:Nat}{u v:List Rat}{k l s h:Nat}(f:Rz u v k l s)(hu:Rw w a n c u)(hv:Rw w b m d v)(hk:k≤h)(hl:l≤h)(hs:s+2≤1900000000):Fv w a n c b m d u v h s:=Fv.right hu hv f.rf (f.fz.mono (by omega) (Nat.le_refl _)) hs
theorem mp_{a b c d:Rat}(hb:b≠0)(hd:d≠0)(h:a * d=b * c):a / b=c / d:=by
 have h1:a / b * b=a:=Rat.div_mul_cancel hb
 have h2:c / d * d=c:=Rat.div_mul_cancel hd
 generalize a / b=x at *
 generalize c / d=y at *
 have h3:(x - y) * (b * d)=0:=by grind
 rcases Rat.mul_eq_zero.1 h3 with h | h
 ·grind
 ·rcases Rat.mul_eq_zero.1 h with h | h
  ·exact absurd h hb
  ·exact absurd h hd
theorem ez_{a b:Rat}(ha:a≠0)(hb:b≠0):a * b≠0:=fun h=>by
 rcases Rat.mul_eq_zero.1 h with h | h
 ·exact ha h
 ·exact hb h
theorem isF.val{U V u v:List Rat}(h:isF U V u v){x:Rat}(hx:al_ x V≠0):al_ x v≠0∧al_ x u / al_ x v=al_ x U / al_ x V:=
 ⟨(h.value hx).1,mp_ (h.value hx).1 hx (h.value hx).2⟩
theorem val_add{u v x y a b:List Rat}{z:Rat}(h:isF (padd (pmul u y) (pmul x v)) (pmul v y) a b)(hv:al_ z v≠0)(hy:al_ z y≠0):al_ z b≠0∧al_ z a / al_ z b=al_ z u / al_ z v+al_ z x / al_ z y:=by
 have h9:al_ z (pmul v y)≠0:=by rw[ac_];exact ez_ hv hy
 obtain⟨h1,h2⟩:=h.val h9
 refine ⟨h1,h2.trans ?_⟩
 rw[av_,ac_,ac_,ac_]
 have e1:al_ z u / al_ z v * al_ z v=al_ z u:=Rat.div_mul_cancel hv
 have e2:al_ z x / al_ z y * al_ z y=al_ z x:=Rat.div_mul_cancel hy
 generalize al_ z u / al_ z v=p at *
 generalize al_ z x / al_ z y=q at *
 have e3:(p+q) / 1=p+q:=by rw[Rat.div_def];grind
 rw[←e3]
 exact mp_ (ez_ hv hy) (by decide) (by grind)
theorem val_sub{u v x y a b:List Rat}{z:Rat}(h:isF (psub (pmul u y) (pmul x v)) (pmul v y) a b)(hv:al_ z v≠0)(hy:al_ z y≠0):al_ z b≠0∧al_ z a / al_ z b=al_ z u / al_ z v - al_ z x / al_ z y:=by
 have h9:al_ z (pmul v y)≠0:=by rw[ac_];exact ez_ hv hy
 obtain⟨h1,h2⟩:=h.val h9
 refine ⟨h1,h2.trans ?_⟩
 rw[b2_,ac_,ac_,ac_]
 have e1:al_ z u / al_ z v * al_ z v=al_ z u:=Rat.div_mul_cancel hv
 have e2:al_ z x / al_ z y * al_ z y=al_ z x:=Rat.div_mul_cancel hy
 generalize al_ z u / al_ z v=p at *
 generalize al_ z x / al_ z y=q at *
 have e3:(p - q) / 1=p - q:=by rw[Rat.div_def];grind
 rw[←e3]
 exact mp_ (ez_ hv hy) (by decide) (by grind)
theorem val_mul{u v x y a b:List Rat}{z:Rat}(h:isF (pmul u x) (pmul v y) a b)(hv:al_ z v≠0)(hy:al_ z y≠0):al_ z b≠0∧al_ z a / al_ z b=al_ z u / al_ z v * (al_ z x / al_ z y):=by
 have h9:al_ z (pmul v y)≠0:=by rw[ac_];exact ez_ hv hy
 obtain⟨h1,h2⟩:=h.val h9
 refine ⟨h1,h2.trans ?_⟩
 rw[ac_,ac_]
 have e1:al_ z u / al_ z v * al_ z v=al_ z u:=Rat.div_mul_cancel hv
 have e2:al_ z x / al_ z y * al_ z y=al_ z x:=Rat.div_mul_cancel hy
 generalize al_ z u / al_ z v=p at *
 generalize al_ z x / al_ z y=q at *
 have e3:p * q / 1=p * q:=by rw[Rat.div_def];grind
 rw[←e3]
 exact mp_ (ez_ hv hy) (by decide) (by grind)
theorem val_quo{u v x y a b:List Rat}{z:Rat}(h:isF (pmul u y) (pmul v x) a b)(hv:al_ z v≠0)(hy:al_ z y≠0)(hx:al_ z x / al_ z y≠0):al_ z b≠0∧al_ z a / al_ z b * (al_ z x / al_ z y)=al_ z u / al_ z v:=by
 have e1:al_ z u / al_ z v * al_ z v=al_ z u:=Rat.div_mul_cancel hv
 have e2:al_ z x / al_ z y * al_ z y=al_ z x:=Rat.div_mul_cancel hy
 have hx0:al_ z x≠0:=by rw[←e2];exact ez_ hx hy
 have h9:al_ z (pmul v x)≠0:=by rw[ac_];exact ez_ hv hx0
 obtain⟨h1,h2⟩:=h.val h9
 refine ⟨h1,?_⟩
 rw[h2,ac_,ac_]
 have e3:al_ z u * al_ z y / (al_ z v * al_ z x) * (al_ z v * al_ z x)=al_ z u * al_ z y:=Rat.div_mul_cancel (ez_ hv hx0)
 generalize al_ z u * al_ z y / (al_ z v * al_ z x)=r at *
 generalize al_ z u / al_ z v=p at *
 generalize al_ z x / al_ z y=q at *
 have h8:(r * q - p) * (al_ z v * al_ z y)=0:=by grind
 rcases Rat.mul_eq_zero.1 h8 with h | h
 ·grind
 ·exact absurd h (ez_ hv hy)
def LstX (u v:LR_) (w:World) (e:Ending) (w':World):Prop:=∃(a:OA_) (n c:Nat) (b:OA_) (m d:Nat),e=.returned (.agg #[.slice a n c,.slice b m d])∧Rw w' a n c u∧Rw w' b m d v∧Below w.heap.size w w'
def LstXV (u v:LR_) (z:Value) (w:World) (e:Ending) (w':World):Prop:=∃(a:OA_) (n c:Nat) (b:OA_) (m d:Nat),e=.returned (.tuple #[.agg #[.slice a n c,.slice b m d],z])∧Rw w' a n c u∧Rw w' b m d v∧Below w.heap.size w w'
theorem LstF.just{U V u v:List Rat}(h:isF U V u v){w w':World}{e:Ending}(k:LstF U V w e w'):LstX u v w e w':=by
 obtain⟨a,n,c,x,b,m,d,y,rfl,h1,h2,h3,h4⟩:=k
 obtain⟨rfl,rfl⟩:=h.same h3
 exact⟨a,n,c,b,m,d,rfl,h1,h2,h4⟩
theorem LstFV.just{U V u v:List Rat}{z:Value}(h:isF U V u v){w w':World}{e:Ending}(k:LstFV U V z w e w'):LstXV u v z w e w':=by
 obtain⟨a,n,c,x,b,m,d,y,rfl,h1,h2,h3,h4⟩:=k
 obtain⟨rfl,rfl⟩:=h.same h3
 exact⟨a,n,c,b,m,d,rfl,h1,h2,h4⟩
theorem ns_{u:List Rat}(h:ai_ u=u):Rf u [1]:=⟨h,by decide +kernel,by rw[el_ (by decide)];decide,by rw[el_ (by decide)];rfl,[],[1],ao_ fun x=>by
 rw[av_,ac_,ac_,bo_];show 0 * _+_=_;grind⟩
theorem og_:Rf [1] [0,1]:=⟨by decide +kernel,by decide +kernel,by decide +kernel,by decide +kernel,[1],[],ao_ fun x=>by
 rw[av_,ac_,ac_,bo_];show _+0 * _=_;grind⟩
theorem ex15_quo:isF (pmul [0,1] [1]) (pmul [1] [0,2]) [1 / 2] [1]:=⟨ns_ (by decide +kernel),fun h=>absurd h (by decide +kernel),fun _=>ao_ fun x=>by
 simp only[ac_,bo_]
 show 1 / 2 * (1 * (0+x * (2+x * 0)))=1 * ((0+x * (1+x * 0)) * 1)
 grind⟩
theorem ex15_over:isF (pmul [1] [1]) (pmul [1] [0,1]) [1] [0,1]:=⟨og_,fun h=>absurd h (by decide +kernel),fun _=>ao_ fun x=>by
 rw[ac_,ac_,ac_,ac_,bo_];grind⟩
theorem g2_{u v:List Rat}(hu:∀q∈u,qlen q≤2)(hv:∀q∈v,qlen q≤2)(lu:u.length≤2)(lv:v.length≤2):Fz u v 2 8:=Fz.of (N:=2) (n:=2) (m:=2) hu hv lu lv (Nat.le_refl _) (Nat.le_refl _) (Nat.le_refl _)
theorem m8_:qlen (1 / 2:Rat)≤2:=by
 have h1:(1 / 2:Rat)=((1:Int):Rat) / ((2:Int):Rat):=by decide +kernel
 rw[h1,Rat.div_def]
 have h2:qlen ((1:Int):Rat)≤2:=co_ (by decide)
 refine fr_ ?_ ?_
 ·show (dg (((1:Int):Rat) * ((2:Int):Rat)⁻¹).num.natAbs).length≤2
  rw[show (((1:Int):Rat) * ((2:Int):Rat)⁻¹).num.natAbs=1 by decide +kernel,jn_ (by decide) (by decide)];decide
 ·show (dg (((1:Int):Rat) * ((2:Int):Rat)⁻¹).den).length≤2
  rw[show (((1:Int):Rat) * ((2:Int):Rat)⁻¹).den=2 by decide +kernel,jn_ (by decide) (by decide)];decide
theorem a2_{w:World}{A0 A1 A2:Nat}{c0_0 c0_1 c1_0 c1_1 c2_0 c2_1 c2_2:Value}{t0 t1 t2:TypeId}(h0:w.heap[A0]? = some (.cells #[c0_0,c0_1] t0 (0,0)))(h1:w.heap[A1]? = some (.cells #[c1_0,c1_1] t1 (0,0)))(h2:w.heap[A2]? = some (.cells #[c2_0,c2_1,c2_2] t2 (0,0))):w.cell? ⟨A0,0,none⟩=some c0_0∧w.cell? ⟨A0,1,none⟩=some c0_1∧w.cell? ⟨A1,0,none⟩=some c1_0∧w.cell? ⟨A1,1,none⟩=some c1_1∧w.cell? ⟨A2,0,none⟩=some c2_0∧w.cell? ⟨A2,1,none⟩=some c2_1∧w.cell? ⟨A2,2,none⟩=some c2_2:=⟨ad_ h0 0,ad_ h0 1,ad_ h1 0,ad_ h1 1,ad_ h2 0,ad_ h2 1,ad_ h2 2⟩
theorem ec_{w:World}{A0 A1 A2 A3:Nat}{c0_0 c0_1 c1_0 c1_1 c2_0 c2_1 c2_2 c3_0 c3_1:Value}{t0 t1 t2 t3:TypeId}(h0:w.heap[A0]? = some (.cells #[c0_0,c0_1] t0 (0,0)))(h1:w.heap[A1]? = some (.cells #[c1_0,c1_1] t1 (0,0)))(h2:w.heap[A2]? = some (.cells #[c2_0,c2_1,c2_2] t2 (0,0)))(h3:w.heap[A3]? = some (.cells #[c3_0,c3_1] t3 (0,0))):w.cell? ⟨A0,0,none⟩=some c0_0∧w.cell? ⟨A0,1,none⟩=some c0_1∧w.cell? ⟨A1,0,none⟩=some c1_0∧w.cell? ⟨A1,1,none⟩=some c1_1∧w.cell? ⟨A2,0,none⟩=some c2_0∧w.cell? ⟨A2,1,none⟩=some c2_1∧w.cell? ⟨A2,2,none⟩=some c2_2∧w.cell? ⟨A3,0,none⟩=some c3_0∧w.cell? ⟨A3,1,none⟩=some c3_1:=⟨ad_ h0 0,ad_ h0 1,ad_ h1 0,ad_ h1 1,ad_ h2 0,ad_ h2 1,ad_ h2 2,ad_ h3 0,ad_ h3 1⟩
theorem dy_{w:World}{A0 A1 A2 A3 A4:Nat}{c0_0 c0_1 c1_0 c1_1 c2_0 c2_1 c2_2 c3_0 c3_1 c4_0 c4_1:Value}{t0 t1 t2 t3 t4:TypeId}(h0:w.heap[A0]? = some (.cells #[c0_0,c0_1] t0 (0,0)))(h1:w.heap[A1]? = some (.cells #[c1_0,c1_1] t1 (0,0)))(h2:w.heap[A2]? = some (.cells #[c2_0,c2_1,c2_2] t2 (0,0)))(h3:w.heap[A3]? = some (.cells #[c3_0,c3_1] t3 (0,0)))(h4:w.heap[A4]? = some (.cells #[c4_0,c4_1] t4 (0,0))):w.cell? ⟨A0,0,none⟩=some c0_0∧w.cell? ⟨A0,1,none⟩=some c0_1∧w.cell? ⟨A1,0,none⟩=some c1_0∧w.cell? ⟨A1,1,none⟩=some c1_1∧w.cell? ⟨A2,0,none⟩=some c2_0∧w.cell? ⟨A2,1,none⟩=some c2_1∧w.cell? ⟨A2,2,none⟩=some c2_2∧w.cell? ⟨A3,0,none⟩=some c3_0∧w.cell? ⟨A3,1,none⟩=some c3_1∧w.cell? ⟨A4,0,none⟩=some c4_0∧w.cell? ⟨A4,1,none⟩=some c4_1:=⟨ad_ h0 0,ad_ h0 1,ad_ h1 0,ad_ h1 1,ad_ h2 0,ad_ h2 1,ad_ h2 2,ad_ h3 0,ad_ h3 1,ad_ h4 0,ad_ h4 1⟩
theorem df_{w:World}{A0 A1 A2 A3 A4 A5:Nat}{c0_0 c0_1 c1_0 c1_1 c2_0 c2_1 c2_2 c3_0 c3_1 c4_0 c4_1 c5_0 c5_1 c5_2:Value}{t0 t1 t2 t3 t4 t5:TypeId}(h0:w.heap[A0]? = some (.cells #[c0_0,c0_1] t0 (0,0)))(h1:w.heap[A1]? = some (.cells #[c1_0,c1_1] t1 (0,0)))(h2:w.heap[A2]? = some (.cells #[c2_0,c2_1,c2_2] t2 (0,0)))(h3:w.heap[A3]? = some (.cells #[c3_0,c3_1] t3 (0,0)))(h4:w.heap[A4]? = some (.cells #[c4_0,c4_1] t4 (0,0)))(h5:w.heap[A5]? = some (.cells #[c5_0,c5_1,c5_2] t5 (0,0))):w.cell? ⟨A0,0,none⟩=some c0_0∧w.cell? ⟨A0,1,none⟩=some c0_1∧w.cell? ⟨A1,0,none⟩=some c1_0∧w.cell? ⟨A1,1,none⟩=some c1_1∧w.cell? ⟨A2,0,none⟩=some c2_0∧w.cell? ⟨A2,1,none⟩=some c2_1∧w.cell? ⟨A2,2,none⟩=some c2_2∧w.cell? ⟨A3,0,none⟩=some c3_0∧w.cell? ⟨A3,1,none⟩=some c3_1∧w.cell? ⟨A4,0,none⟩=some c4_0∧w.cell? ⟨A4,1,none⟩=some c4_1∧w.cell? ⟨A5,0,none⟩=some c5_0∧w.cell? ⟨A5,1,none⟩=some c5_1∧w.cell? ⟨A5,2,none⟩=some c5_2:=⟨ad_ h0 0,ad_ h0 1,ad_ h1 0,ad_ h1 1,ad_ h2 0,ad_ h2 1,ad_ h2 2,ad_ h3 0,ad_ h3 1,ad_ h4 0,ad_ h4 1,ad_ h5 0,ad_ h5 1,ad_ h5 2⟩
theorem cw_{w:World}{A0 A1 A2 A3 A4 A5 A6:Nat}{c0_0 c0_1 c1_0 c1_1 c2_0 c2_1 c2_2 c3_0 c3_1 c4_0 c4_1 c5_0 c5_1 c5_2 c6_0 c6_1 c6_2:Value}{t0 t1 t2 t3 t4 t5 t6:TypeId}(h0:w.heap[A0]? = some (.cells #[c0_0,c0_1] t0 (0,0)))(h1:w.heap[A1]? = some (.cells #[c1_0,c1_1] t1 (0,0)))(h2:w.heap[A2]? = some (.cells #[c2_0,c2_1,c2_2] t2 (0,0)))(h3:w.heap[A3]? = some (.cells #[c3_0,c3_1] t3 (0,0)))(h4:w.heap[A4]? = some (.cells #[c4_0,c4_1] t4 (0,0)))(h5:w.heap[A5]? = some (.cells #[c5_0,c5_1,c5_2] t5 (0,0)))(h6:w.heap[A6]? = some (.cells #[c6_0,c6_1,c6_2] t6 (0,0))):w.cell? ⟨A0,0,none⟩=some c0_0∧w.cell? ⟨A0,1,none⟩=some c0_1∧w.cell? ⟨A1,0,none⟩=some c1_0∧w.cell? ⟨A1,1,none⟩=some c1_1∧w.cell? ⟨A2,0,none⟩=some c2_0∧w.cell? ⟨A2,1,none⟩=some c2_1∧w.cell? ⟨A2,2,none⟩=some c2_2∧w.cell? ⟨A3,0,none⟩=some c3_0∧w.cell? ⟨A3,1,none⟩=some c3_1∧w.cell? ⟨A4,0,none⟩=some c4_0∧w.cell? ⟨A4,1,none⟩=some c4_1∧w.cell? ⟨A5,0,none⟩=some c5_0∧w.cell? ⟨A5,1,none⟩=some c5_1∧w.cell? ⟨A5,2,none⟩=some c5_2∧w.cell? ⟨A6,0,none⟩=some c6_0∧w.cell? ⟨A6,1,none⟩=some c6_1∧w.cell? ⟨A6,2,none⟩=some c6_2:=⟨ad_ h0 0,ad_ h0 1,ad_ h1 0,ad_ h1 1,ad_ h2 0,ad_ h2 1,ad_ h2 2,ad_ h3 0,ad_ h3 1,ad_ h4 0,ad_ h4 1,ad_ h5 0,ad_ h5 1,ad_ h5 2,ad_ h6 0,ad_ h6 1,ad_ h6 2⟩
theorem b6_{w:World}{A0 A1 A2 A3 A4:Nat}{c0_0 c0_1 c0_2 c1_0 c1_1 c1_2 c2_0 c2_1 c2_2 c3_0 c3_1 c3_2 c4_0 c4_1 c4_2:Value}{t0 t1 t2 t3 t4:TypeId}(h0:w.heap[A0]? = some (.cells #[c0_0,c0_1,c0_2] t0 (0,0)))(h1:w.heap[A1]? = some (.cells #[c1_0,c1_1,c1_2] t1 (0,0)))(h2:w.heap[A2]? = some (.cells #[c2_0,c2_1,c2_2] t2 (0,0)))(h3:w.heap[A3]? = some (.cells #[c3_0,c3_1,c3_2] t3 (0,0)))(h4:w.heap[A4]? = some (.cells #[c4_0,c4_1,c4_2] t4 (0,0))):w.cell? ⟨A0,0,none⟩=some c0_0∧w.cell? ⟨A0,1,none⟩=some c0_1∧w.cell? ⟨A0,2,none⟩=some c0_2∧w.cell? ⟨A1,0,none⟩=some c1_0∧w.cell? ⟨A1,1,none⟩=some c1_1∧w.cell? ⟨A1,2,none⟩=some c1_2∧w.cell? ⟨A2,0,none⟩=some c2_0∧w.cell? ⟨A2,1,none⟩=some c2_1∧w.cell? ⟨A2,2,none⟩=some c2_2∧w.cell? ⟨A3,0,none⟩=some c3_0∧w.cell? ⟨A3,1,none⟩=some c3_1∧w.cell? ⟨A3,2,none⟩=some c3_2∧w.cell? ⟨A4,0,none⟩=some c4_0∧w.cell? ⟨A4,1,none⟩=some c4_1∧w.cell? ⟨A4,2,none⟩=some c4_2:=⟨ad_ h0 0,ad_ h0 1,ad_ h0 2,ad_ h1 0,ad_ h1 1,ad_ h1 2,ad_ h2 0,ad_ h2 1,ad_ h2 2,ad_ h3 0,ad_ h3 1,ad_ h3 2,ad_ h4 0,ad_ h4 1,ad_ h4 2⟩
theorem ei_{w:World}{A0 A1 A2 A3 A4:Nat}{c0_0 c0_1 c1_0 c1_1 c2_0 c2_1 c2_2 c3_0 c3_1 c3_2 c4_0 c4_1 c4_2:Value}{t0 t1 t2 t3 t4:TypeId}(h0:w.heap[A0]? = some (.cells #[c0_0,c0_1] t0 (0,0)))(h1:w.heap[A1]? = some (.cells #[c1_0,c1_1] t1 (0,0)))(h2:w.heap[A2]? = some (.cells #[c2_0,c2_1,c2_2] t2 (0,0)))(h3:w.heap[A3]? = some (.cells #[c3_0,c3_1,c3_2] t3 (0,0)))(h4:w.heap[A4]? = some (.cells #[c4_0,c4_1,c4_2] t4 (0,0))):w.cell? ⟨A0,0,none⟩=some c0_0∧w.cell? ⟨A0,1,none⟩=some c0_1∧w.cell? ⟨A1,0,none⟩=some c1_0∧w.cell? ⟨A1,1,none⟩=some c1_1∧w.cell? ⟨A2,0,none⟩=some c2_0∧w.cell? ⟨A2,1,none⟩=some c2_1∧w.cell? ⟨A2,2,none⟩=some c2_2∧w.cell? ⟨A3,0,none⟩=some c3_0∧w.cell? ⟨A3,1,none⟩=some c3_1∧w.cell? ⟨A3,2,none⟩=some c3_2∧w.cell? ⟨A4,0,none⟩=some c4_0∧w.cell? ⟨A4,1,none⟩=some c4_1∧w.cell? ⟨A4,2,none⟩=some c4_2:=⟨ad_ h0 0,ad_ h0 1,ad_ h1 0,ad_ h1 1,ad_ h2 0,ad_ h2 1,ad_ h2 2,ad_ h3 0,ad_ h3 1,ad_ h3 2,ad_ h4 0,ad_ h4 1,ad_ h4 2⟩
theorem hs_{w:World}{A0 A1 A2 A3 A4 A5:Nat}{c0_0 c0_1 c1_0 c1_1 c2_0 c2_1 c2_2 c3_0 c3_1 c3_2 c4_0 c4_1 c4_2 c5_0 c5_1:Value}{t0 t1 t2 t3 t4 t5:TypeId}(h0:w.heap[A0]? = some (.cells #[c0_0,c0_1] t0 (0,0)))(h1:w.heap[A1]? = some (.cells #[c1_0,c1_1] t1 (0,0)))(h2:w.heap[A2]? = some (.cells #[c2_0,c2_1,c2_2] t2 (0,0)))(h3:w.heap[A3]? = some (.cells #[c3_0,c3_1,c3_2] t3 (0,0)))(h4:w.heap[A4]? = some (.cells #[c4_0,c4_1,c4_2] t4 (0,0)))(h5:w.heap[A5]? = some (.cells #[c5_0,c5_1] t5 (0,0))):w.cell? ⟨A0,0,none⟩=some c0_0∧w.cell? ⟨A0,1,none⟩=some c0_1∧w.cell? ⟨A1,0,none⟩=some c1_0∧w.cell? ⟨A1,1,none⟩=some c1_1∧w.cell? ⟨A2,0,none⟩=some c2_0∧w.cell? ⟨A2,1,none⟩=some c2_1∧w.cell? ⟨A2,2,none⟩=some c2_2∧w.cell? ⟨A3,0,none⟩=some c3_0∧w.cell? ⟨A3,1,none⟩=some c3_1∧w.cell? ⟨A3,2,none⟩=some c3_2∧w.cell? ⟨A4,0,none⟩=some c4_0∧w.cell? ⟨A4,1,none⟩=some c4_1∧w.cell? ⟨A4,2,none⟩=some c4_2∧w.cell? ⟨A5,0,none⟩=some c5_0∧w.cell? ⟨A5,1,none⟩=some c5_1:=⟨ad_ h0 0,ad_ h0 1,ad_ h1 0,ad_ h1 1,ad_ h2 0,ad_ h2 1,ad_ h2 2,ad_ h3 0,ad_ h3 1,ad_ h3 2,ad_ h4 0,ad_ h4 1,ad_ h4 2,ad_ h5 0,ad_ h5 1⟩
def LstG (u v:LR_) (h s:Nat) (w:World) (e:Ending) (w':World):Prop:=∃(a:OA_) (n c:Nat) (b:OA_) (m d:Nat),e=.returned (.agg #[.slice a n c,.slice b m d])∧Fv w' a n c b m d u v h s∧Below w.heap.size w w'
theorem LstF.good{U V u v:List Rat}{k l t h:Nat}(hf:isF U V u v)(f:Rz u v k l t)(hk:k≤h)(hl:l≤h)(hs:t+2≤1900000000){w w':World}{e:Ending}(g:LstF U V w e w'):LstG u v h t w e w':=by
 obtain⟨a,n,c,b,m,d,rfl,h1,h2,h3⟩:=g.just hf
 exact⟨a,n,c,b,m,d,rfl,f.fv h1 h2 hk hl hs,h3⟩
theorem a3_{w w':World}{p q r s t u v:Addr}{x1 x2 x3 x4 x5 x6 x7:Value}(h:w.cell? p=some x1∧w.cell? q=some x2∧w.cell? r=some x3∧w.cell? s=some x4∧w.cell? t=some x5∧w.cell? u=some x6∧w.cell? v=some x7)(hb:Below w.heap.size w w'):w'.cell? p=some x1∧w'.cell? q=some x2∧w'.cell? r=some x3∧w'.cell? s=some x4∧w'.cell? t=some x5∧w'.cell? u=some x6∧w'.cell? v=some x7:=⟨cell_later hb h.1,cell_later hb h.2.1,cell_later hb h.2.2.1,cell_later hb h.2.2.2.1,cell_later hb h.2.2.2.2.1,cell_later hb h.2.2.2.2.2.1,cell_later hb h.2.2.2.2.2.2⟩
def LstGV (u v:LR_) (h s:Nat) (z:Value) (w:World) (e:Ending) (w':World):Prop:=∃(a:OA_) (n c:Nat) (b:OA_) (m d:Nat),e=.returned (.tuple #[.agg #[.slice a n c,.slice b m d],z])∧Fv w' a n c b m d u v h s∧Below w.heap.size w w'
theorem LstFV.good{U V u v:List Rat}{z:Value}{k l t h:Nat}(hf:isF U V u v)(f:Rz u v k l t)(hk:k≤h)(hl:l≤h)(hs:t+2≤1900000000){w w':World}{e:Ending}(g:LstFV U V z w e w'):LstGV u v h t z w e w':=by
 obtain⟨a,n,c,b,m,d,rfl,h1,h2,h3⟩:=g.just hf
 exact⟨a,n,c,b,m,d,rfl,f.fv h1 h2 hk hl hs,h3⟩
theorem fy_{A X:Nat}{x:Rat}(hx:qlen x≤X):∀{l:List Rat},(∀q∈l,qlen q≤A)→qlen (al_ x l)≤1+l.length * (A+X+3)
 | [],_=>by
   show qlen 0≤_
   rw[c9_];omega
 | c :: l,h=>by
   have h1:=fy_ hx (l:=l) (fun q hq=>h q (List.mem_cons_of_mem _ hq))
   have h2:=h c (List.mem_cons_self ..)
   have h3:=ch_ x (al_ x l)
   have h4:=eu_ c (x * al_ x l)
   rw[al_,List.length_cons,Nat.add_mul];omega
theorem Rz.val_len{u v:List Rat}{k l s X:Nat}{q:Rat}(f:Rz u v k l s)(hq:qlen q≤X):qlen (al_ q u / al_ q v)≤3+2 * (max k l * (s+2+X+3)):=by
 have h1:=fy_ hq f.fz.qlen
 have h2:=fy_ hq f.fz.swap.qlen
 have h3:=hr_ (al_ q u) (al_ q v)
 have h4:u.length * (s+2+X+3)≤max k l * (s+2+X+3):=Nat.mul_le_mul_right _ f.fz.lu
 have h5:v.length * (s+2+X+3)≤max k l * (s+2+X+3):=Nat.mul_le_mul_right _ f.fz.lv
 omega
end Go.Proofs.YtocebjbjnfammaaGreat
