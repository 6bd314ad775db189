import Derived.Test.YtocebjbjnfammaaGreatTG20
import Derived.Test.YtocebjbjnfammaaGreatTG3
import Derived.Test.YtocebjbjnfammaaGreatTG8
import Derived.Test.YtocebjbjnfammaaGreatTG6
import Derived.Deep.RegionHeld3
import Derived.Test.YtocebjbjnfammaaGreatTG4
import Derived.Test.YtocebjbjnfammaaGreatTG1
set_option maxRecDepth 4096
set_option maxHeartbeats 16000000
namespace Go.Proofs.YtocebjbjnfammaaGreat
open Go.RowKit
def u3_ (X Y:Nat) (w:World) (e:Ending) (w':World):Prop:=
 ∃(a:OA_) (n cap:Nat) (b:OA_) (m cap':Nat) (X' Y':Nat),e=.returned (.tuple #[.slice a n cap,.slice b m cap'])∧Wd w' a n cap (dg X')∧Wd w' b m cap' (dg Y')∧Hid (X'≤Y∧Y' < Y∧Y'≤X'∧Nat.gcd X' Y'=Nat.gcd X Y)∧Below w.heap.size w w'
theorem lehmer_of{X Y xa xb ya yb:Nat}(hxb:xb≠0)(h:Good X Y xa xb ya yb):e0_ X Y xa xb≤Y∧e0_ X Y ya yb < Y∧e0_ X Y ya yb≤e0_ X Y xa xb∧Nat.gcd (e0_ X Y xa xb) (e0_ X Y ya yb)=Nat.gcd X Y:=by
 have h1:=h.first
 have h2:=h.lt
 rcases h1 with h1 | h1
 ·exact absurd h1 hxb
 ·exact⟨h1,by omega,by omega,h.gcd⟩
theorem box_pair(w:World)(x y z u:Value)(t:TypeId) :
 ((w.alloc (.cells #[x,y] t)).alloc (.cells #[z,u] t)).heap[w.heap.size]? = some (.cells #[x,y] t (0,0))∧((w.alloc (.cells #[x,y] t)).alloc (.cells #[z,u] t)).heap[w.heap.size+1]? = some (.cells #[z,u] t (0,0)):=by
 refine ⟨ac_ (ai_ w #[x,y] t) (aa_ _ _),?_⟩
 have h2:=ai_ (w.alloc (.cells #[x,y] t)) #[z,u] t
 rw[al_] at h2
 exact h2
theorem sl_{w:World}{A B:Nat}{x y z u:Value}{t:TypeId}(h1:w.heap[A]? = some (.cells #[x,y] t (0,0)))(h2:w.heap[B]? = some (.cells #[z,u] t (0,0))) :
 w.cell? ⟨A,0,none⟩=some x∧w.cell? ⟨A,1,none⟩=some y∧w.cell? ⟨B,0,none⟩=some z∧w.cell? ⟨B,1,none⟩=some u:=⟨ad_ h1 0,ad_ h1 1,ad_ h2 0,ad_ h2 1⟩
theorem ir_(a:OA_)(n cap k s n3 p:Nat)(l:List Nat)(w:World)(h:Wd w a n cap l)(hn:Hid (n3=k+3))(hp:Hid (p=val l / 2 ^ (32 * k+(32 - s))))(hk:k≤1048576000000)(hs:s≤31)(hv:Hid (val l < 2 ^ (32 * (k+3) - s))) :
 Calls Tryz.prog 164 #[.slice a n cap,.int .i64 (n3:Int),.int .i64 (s:Int)] w fun e w'=>e=.returned (.int .u64 (p:Int))∧∃q,w'=w.drewN q:=by
 rw[hn.out,hp.out]
 exact r4_ a n cap k s l w h hk hs hv
theorem j2_(a:OA_)(k cap:Nat)(b:OA_)(m cap':Nat)(X Y:Nat)(w:World)(ha:Wd w a (k+3) cap (dg X))(hb:Wd w b m cap' (dg Y))(hk:k≤94371840000)(hm:m≤94371840000)(hYX:Hid (Y≤X))(hY:Hid (Y≠0)) :
 Calls Tryz.prog 152 #[.slice a (k+3) cap,.slice b m cap'] w (u3_ X Y w):=by
 obtain⟨hb1,hb2⟩:=ha.bound
 obtain⟨n3,hn3⟩:∃n3:Nat,n3=k+3:=⟨_,rfl⟩
 have Hn3:=hd_ hn3
 obtain⟨p1,e1⟩:∃p1:Nat,(n3:Int) - 1=(p1:Int):=⟨k+2,by omega⟩
 have hp1:p1=n3 - 1:=by omega
 have hp1n:p1 < n3:=by omega
 have h0:atw (dg X) (n3 - 1)≠0:=by
  have h1:=t0_ (l:=dg X) (cz_ X)
  rw[a3_,ha.len,←hn3] at h1
  rcases h1 with h1 | h1
  ·omega
  ·exact h1
 have hroom:=head_room (l:=dg X) (n:=n3) (cz_ X) (by rw[ha.len,hn3]) (by omega) h0
 rw[←hp1] at h0 hroom
 have hxw:=bi_ (cz_ X) p1
 rw[←hn3] at ha hb1 ⊢
 obtain⟨ba,oa,rfl,hca⟩:=ha.at (by omega)
 have hck:=hca p1 hp1n
 obtain⟨x,hx⟩:∃x,x=atw (dg X) p1:=⟨_,rfl⟩
 rw[←hx] at h0 hroom hxw hck
 have hbl:blen x≤32:=blen_le.2 (by omega)
 have hbl1:0 < blen x:=lr_ h0
 obtain⟨s,hs⟩:∃s,s=32 - blen x:=⟨_,rfl⟩
 have Hs:=hd_ hs
 have hs31:s≤31:=by omega
 rw[←hs,hn3,a3_] at hroom
 have HrA:Hid (val (dg X) < 2 ^ (32 * (k+3) - s)):=hd_ (by rw[a3_];exact hroom)
 have HrB:Hid (val (dg Y) < 2 ^ (32 * (k+3) - s)):=hd_ (by rw[a3_];exact Nat.lt_of_le_of_lt hYX.out hroom)
 have Hp:Hid (X / 2 ^ (32 * k+(32 - s)) < 18446744073709551616):=hd_ (by
  rw[Nat.div_lt_iff_lt_mul (Nat.two_pow_pos _),show (18446744073709551616:Nat)=2 ^ 64 by decide,←Nat.pow_add,show 64+(32 * k+(32 - s))=32 * (k+3) - s by omega]
  exact hroom)
 have Ha:=hd_ ha
 have Hb:=hd_ hb
 have HvX:Hid (val (dg X)=X):=hd_ (a3_ X)
 have HvY:Hid (val (dg Y)=Y):=hd_ (a3_ Y)
 have hn3b:n3≤94371840003:=by omega
 obtain⟨M,hM⟩:∃M,M=2 ^ (32 * k+(32 - s)):=⟨_,rfl⟩
 obtain⟨p,hp⟩:∃p,p=X / M:=⟨_,rfl⟩
 obtain⟨q,hq⟩:∃q,q=Y / M:=⟨_,rfl⟩
 have HPM:=hd_ hp
 have HQM:=hd_ hq
 have HP:Hid (p=val (dg X) / 2 ^ (32 * k+(32 - s))):=hd_ (by rw[a3_,←hM];exact hp)
 have HQ:Hid (q=val (dg Y) / 2 ^ (32 * k+(32 - s))):=hd_ (by rw[a3_,←hM];exact hq)
 have HM:=hd_ hM
 have HM0:Hid (0 < M):=hd_ (by rw[hM];exact Nat.two_pow_pos _)
 have hp64:p < 18446744073709551616:=by rw[hp,hM];exact Hp.out
 clear Hp hp hq
 clear hca ha hb hroom hbl hbl1 hs hp1 hx h0 hM hn3
 go_enter Tryz.func152,Tryz.ntmps152
 go_wp2_with fail
 refine (bits_lz32 x _ hxw).mono ?_
 rintro e w' ⟨rfl,rfl⟩
 rw[←Hs.out]
 go_wp2_with fail
 refine (ir_ _ _ _ k s n3 p (dg X) _ Ha.out Hn3 HP (by omega) hs31 HrA).mono ?_
 rintro e w1 ⟨rfl,q1,rfl⟩
 go_wp2_with fail
 refine (ir_ _ _ _ k s n3 q (dg Y) _ (Hb.out.later (ec_ _ _)) Hn3 HQ (by omega) hs31 HrB).mono ?_
 rintro e w1 ⟨rfl,q2,rfl⟩
 go_wp2_with fail
 refine (o7_ X Y M p q _ HM0 hYX HPM HQM hp64).mono ?_
 rintro e w2 ⟨xa,xb,ya,yb,rfl,hxa,hxb,hya,hyb,HG,hB2⟩
 have hB2':Below w.heap.size w w2:=ab_ (ec_ w (q1+q2)) hB2
 have hBW:=ab_ hB2' (ab_ (aa_ w2 (.cells #[.int .u64 (xa:Int),.int .u64 (xb:Int)] 163)) (aa_ _ (.cells #[.int .u64 (ya:Int),.int .u64 (yb:Int)] 163)))
 have HA2:=Ha.l_ hBW
 have HC2:=Hb.l_ hBW
 have HB2:=hd_ hBW
 obtain⟨hN1,hN2⟩:=box_pair w2 (.int .u64 (xa:Int)) (.int .u64 (xb:Int)) (.int .u64 (ya:Int)) (.int .u64 (yb:Int)) 163
 clear hB2 hB2' hBW Ha Hb HrA HrB HP HQ HPM HQM HM HM0 hck e1 hp1n hxw Hs
 unfold cntV
 by_cases h0:xb=0
 ·have hx0:((xb:Int) == 0)=true:=by rw[h0];rfl
  clear hN1 hN2 h0 HG
  go_wp2_with fail
  refine (ld_ _ _ _ _ _ _ _ _ _ HA2.out HC2.out (by omega) (by omega) (by rw[HvY.out];exact hY)).mono ?_
  rintro e w3 ⟨a3,n4,c3,b3,m3,d3,rfl,h3,k3,hB3⟩
  rw[HvX.out,HvY.out] at k3
  have K3:=hd_ k3
  have C3:=HC2.l_ hB3
  clear h3 k3
  go_wp2
  go_ret2
  exact⟨b,m,cap',b3,m3,d3,Y,X % Y,rfl,C3.out,K3.out,hd_ ⟨Nat.le_refl _,(hi_ hY.out).2,Nat.le_of_lt (hi_ hY.out).2,(hi_ hY.out).1⟩,ab_ HB2.out hB3⟩
 ·have hx0:((xb:Int) == 0)=false:=by simp[h0]
  have HL:=hd_ (lehmer_of h0 (HG.out.resolve_left h0))
  clear h0 HG
  go_wp2
  generalize (w2.alloc (.cells #[.int .u64 (xa:Int),.int .u64 (xb:Int)] 163)).alloc (.cells #[.int .u64 (ya:Int),.int .u64 (yb:Int)] 163)=W at *
  generalize w2.heap.size=g at *
  have hNd1:W.drew.heap[g]? = some (.cells #[.int .u64 (xa:Int),.int .u64 (xb:Int)] 163 (0,0)):=hN1
  have hNd2:W.drew.heap[g+1]? = some (.cells #[.int .u64 (ya:Int),.int .u64 (yb:Int)] 163 (0,0)):=hN2
  have Hd:Below W.heap.size W W.drew:=(Below.refl _ _).drew
  have HN1:=hd_ hNd1
  have HN2:=hd_ hNd2
  have Sd:=sl_ hNd1 hNd2
  have hnb:n3≤104857600000:=by omega
  have hmb:m≤104857600000:=by omega
  clear hN1 hN2 hNd1 hNd2 hx0
  go_region_held3 (fun w'=>w'.cell? ⟨g,0,none⟩=some (.int .u64 (xa:Int))∧w'.cell? ⟨g,1,none⟩=some (.int .u64 (xb:Int))∧w'.cell? ⟨g+1,0,none⟩=some (.int .u64 (ya:Int))∧w'.cell? ⟨g+1,1,none⟩=some (.int .u64 (yb:Int))) (first | exact Sd | exact S1 | exact S2)
   (first
   | (go_at_call 165;(first
     | (have S0:=S1;(refine (rq_ ya yb _ n3 cap (dg X) b m cap' (dg Y) _ ((HA2.out.later Hd).later b1) ((HC2.out.later Hd).later b1) hnb hmb hya hyb).mono ?_);rintro e w4 ⟨a2,n2,c2,rfl,h2,b2⟩;have S2:=sl_ (ac_ (ac_ HN1.out b1) b2) (ac_ (ac_ HN2.out b1) b2))
     | ((refine (rq_ xa xb _ n3 cap (dg X) b m cap' (dg Y) _ (HA2.out.later Hd) (HC2.out.later Hd) hnb hmb hxa hxb).mono ?_);rintro e w3 ⟨a1,n1,c1,rfl,h1,b1⟩;have S1:=sl_ (ac_ HN1.out b1) (ac_ HN2.out b1)))))
  rw[HvX.out,HvY.out] at h1 h2
  have H1:=h1.l_ b2
  have H2:=hd_ h2
  clear h1 h2
  go_wp2
  go_ret2
  exact⟨_,_,_,_,_,_,_,_,rfl,H1.out,H2.out,HL,ab_ HB2.out (ab_ Hd (ab_ b1 b2))⟩
theorem Wd.held_any{w:World}{a:Option Addr}{n cap:Nat}{l:List Nat}(h:Wd w a n cap l):kd_ w (.slice a n cap)=val l:=by
 cases a with
 | none=>obtain⟨_,_,rfl⟩:=h.ofNone;rfl
 | some ad=>
   by_cases hn:n=0
   ·subst hn
    obtain rfl:=List.eq_nil_of_length_eq_zero h.len
    rfl
   ·obtain⟨b,off,e,_⟩:=h.at (by omega)
    simp only[Option.some.injEq] at e
    subst e
    exact h.held
theorem qn_{v m:Nat}(h:(dg v).length=m)(hm:m≤2):v < 18446744073709551616:=by
 have h1:=dg_length_pow.1 (show (dg v).length≤2 by omega)
 simpa using h1
theorem j3_{v:Nat}(h:v < 18446744073709551616):k0_ v=v∧on_ v=true:=by
 unfold k0_ on_ two64
 rw[if_pos h,decide_eq_true h]
 exact⟨rfl,rfl⟩
def qf_ (G bound:Nat) (w0:World) (x y:Value) (wr:World):Prop:=
 ∃(a:OA_) (n cap:Nat) (b:OA_) (m cap':Nat) (X Y:Nat),x=.slice a n cap∧y=.slice b m cap'∧Hid (Wd wr a n cap (dg X))∧Hid (Wd wr b m cap' (dg Y))∧n≤bound∧m≤bound∧Hid (Y≤X∧Nat.gcd X Y=G)∧Hid (Below w0.heap.size w0 wr)
theorem vn_(a:OA_)(n cap:Nat)(la:List Nat)(b:OA_)(m cap':Nat)(lb:List Nat)(w:World)(ha:Wd w a n cap la)(hb:Wd w b m cap' lb)(hn:n≤83886080000)(hm:m≤83886080000) :
 Calls Tryz.prog 127 #[.slice a n cap,.slice b m cap'] w (Lst (dg (Nat.gcd (val la) (val lb))) w):=by
 have hla:(dg (val la)).length≤n:=ha.trim_le
 have hlb:(dg (val lb)).length≤m:=hb.trim_le
 have Hb:=hd_ hb
 go_enter Tryz.func127,Tryz.ntmps127
 go_wp2_with fail
 refine (natSaid.norm _ _ _ _ _ ha (by omega)).mono ?_
 rintro e w1 ⟨ax,nx,cx,rfl,hx,hB1⟩
 have Hx:=hd_ hx
 have hnx:nx≤83886080000:=by have h1:=hx.len;omega
 have Hb1:=Hb.l_ hB1
 clear ha hb hx Hb
 go_wp2_with fail
 refine (natSaid.norm _ _ _ _ _ Hb1.out (by omega)).mono ?_
 rintro e w2 ⟨ay,ny,cy,rfl,hy,hB2⟩
 have Hy:=hd_ hy
 have hny:ny≤83886080000:=by have h1:=hy.len;omega
 have Hx2:=Hx.l_ hB2
 have hB12:=ab_ hB1 hB2
 clear hy hla hlb Hb1 Hx hB1 hB2
 generalize val la=X0 at *
 generalize val lb=Y0 at *
 have HvX:Hid (val (dg X0)=X0):=hd_ (a3_ X0)
 have HvY:Hid (val (dg Y0)=Y0):=hd_ (a3_ Y0)
 go_wp2_with fail
 refine (natSaid.cmp _ _ _ _ _ _ _ _ _ Hx2.out Hy.out (by omega) (by omega)).mono ?_
 rintro e w3 ⟨rfl,hB3⟩
 rw[HvX.out,HvY.out]
 have Hx3:=Hx2.l_ hB3
 have Hy3:=Hy.l_ hB3
 have HB3:=hd_ (ab_ hB12 hB3)
 clear Hx2 Hy hB12 hB3 HvX HvY
 obtain⟨G,hG⟩:∃G,G=Nat.gcd X0 Y0:=⟨_,rfl⟩
 have HGe:Hid (Nat.gcd X0 Y0=G):=hd_ hG.symm
 have HS:Hid ((X0 < Y0→X0≤Y0∧Nat.gcd Y0 X0=G)∧(¬X0 < Y0→Y0≤X0∧Nat.gcd X0 Y0=G)):=hd_ ⟨fun h=>⟨by omega,by rw[hG,Nat.gcd_comm]⟩,fun h=>⟨by omega,hG.symm⟩⟩
 clear hG
 by_cases hlt:X0 < Y0
 ·have hc:cmpI X0 Y0 < 0:=by rw[fv_ hlt];omega
  have HSs:=hd_ (HS.out.1 hlt)
  clear hlt HS
  generalize cmpI X0 Y0=c at *
  go_wp2
  go_loopw [0,1] (fun xv yv wr=>qf_ G 83886080000 w xv yv wr) (fun _ yv wr=>kd_ wr yv)
  case atStart=>exact⟨ay,ny,cy,ax,nx,cx,Y0,X0,rfl,rfl,Hy3,Hx3,hny,hnx,HSs,HB3⟩
  case round=>
   clear Hx3 Hy3 hnx hny HSs HB3 hc
   obtain⟨a,n,cap,b,m,cap',X,Y,rfl,rfl,HX,HY,hn,hm,HXY,HB⟩:=hrel
   have HvX:Hid (val (dg X)=X):=hd_ (a3_ X)
   have HvY:Hid (val (dg Y)=Y):=hd_ (a3_ Y)
   by_cases hm2:2 < m
   ·have HmY:=hd_ HY.out.held_any
    rw[HvY.out] at HmY
    have hmn:m≤n:=by rw[←HX.out.len,←HY.out.len];exact ax_ HXY.out.1
    obtain⟨k,rfl⟩:∃k,n=k+3:=⟨n - 3,by omega⟩
    have HY0:Hid (Y≠0):=hd_ (fun h=>by have:=HY.out.len;rw[h,cu_] at this;simp at this;omega)
    have HYX:Hid (Y≤X):=hd_ HXY.out.1
    have hm2i:(2:Int) < (m:Int):=by omega
    go_wp2_with fail
    refine (j2_ a k cap b m cap' X Y _ HX.out HY.out (by omega) (by omega) HYX HY0).mono ?_
    rintro e w4 ⟨a4,n4,c4,b4,m4,d4,X4,Y4,rfl,h4,k4,HL,hB4⟩
    have H4:=hd_ h4
    have K4:=hd_ k4
    have hn4:n4≤83886080000:=by have h1:=h4.len;have h2:=ax_ HL.out.1;have h3:=HY.out.len;omega
    have hm4:m4≤83886080000:=by have h1:=k4.len;have h2:=ax_ (Nat.le_of_lt HL.out.2.1);have h3:=HY.out.len;omega
    have HB4:=hd_ (ab_ HB.out hB4)
    have HmK:=hd_ k4.held_any
    rw[a3_] at HmK
    clear h4 k4 hB4
    go_wp2
    go_roundw
    case rel=>exact⟨a4,n4,c4,b4,m4,d4,X4,Y4,rfl,rfl,H4,K4,hn4,hm4,hd_ ⟨HL.out.2.2.1,HL.out.2.2.2.trans HXY.out.2⟩,HB4⟩
    case measure=>rw[HmK.out,HmY.out];exact HL.out.2.1
   ·have hm2i:¬(2:Int) < (m:Int):=by omega
    by_cases hm0:m=0
    ·subst hm0
     have HGX:Hid (X=G):=hd_ (by rw[←HXY.out.2,dg_nil_iff.1 HY.out.len,Nat.gcd_zero_right])
     go_wp2
     go_ret
     exact⟨a,n,cap,rfl,by rw[HGe.out,←HGX.out];exact HX.out,HB.out⟩
    ·have hmb:((m:Int) == 0)=false:=by simp;omega
     have HY0:Hid (Y≠0):=hd_ (fun h=>by have:=HY.out.len;rw[h,cu_] at this;simp at this;omega)
     have hYs:Y < 18446744073709551616:=qn_ HY.out.len (by omega)
     have hRs:X % Y < 18446744073709551616:=Nat.lt_trans (Nat.mod_lt _ (Nat.pos_of_ne_zero HY0.out)) hYs
     have HGY:Hid (Nat.gcd Y (X % Y)=G):=hd_ ((hi_ HY0.out).1.trans HXY.out.2)
     go_wp2_with fail
     refine (ld_ _ _ _ _ _ _ _ _ _ HX.out HY.out (by omega) (by omega) (by rw[HvY.out];exact HY0)).mono ?_
     rintro e w4 ⟨a4,n4,c4,b4,m4,d4,rfl,h4,k4,hB4⟩
     rw[HvX.out,HvY.out] at k4
     have K4:=hd_ k4
     have hm4:m4≤83886080000:=by have h1:=k4.len;have h2:=ax_ (Nat.le_of_lt (Nat.mod_lt X (Nat.pos_of_ne_zero HY0.out)));have h3:=HY.out.len;omega
     have HY4:=HY.l_ hB4
     have hB14:=ab_ HB.out hB4
     obtain⟨R,hR⟩:∃R,R=X % Y:=⟨_,rfl⟩
     rw[←hR] at hRs HGY K4
     have HvR:Hid (val (dg R)=R):=hd_ (a3_ R)
     have HsY:=hd_ (j3_ hYs)
     have HsR:=hd_ (j3_ hRs)
     clear h4 k4 hB4 hR HX HY HB HXY HY0
     go_wp2_with fail
     refine (natSaid.small _ _ _ _ _ HY4.out (by omega)).mono ?_
     rintro e w5 ⟨rfl,hB5⟩
     rw[HvY.out,HsY.out.1,HsY.out.2]
     have K5:=K4.l_ hB5
     have hB15:=ab_ hB14 hB5
     clear K4 HY4 hB14 hB5 HvX HvY HsY
     go_wp2_with fail
     refine (natSaid.small _ _ _ _ _ K5.out (by omega)).mono ?_
     rintro e w6 ⟨rfl,hB6⟩
     rw[HvR.out,HsR.out.1,HsR.out.2]
     have HB16:=hd_ (ab_ hB15 hB6)
     clear K5 hB15 hB6 HvR HsR
     go_wp2
     go_loopw [8,10] (fun xv yv wr=>∃x y:Nat,xv=.int .u64 (x:Int)∧yv=.int .u64 (y:Int)∧x < 18446744073709551616∧y < 18446744073709551616∧Hid (Nat.gcd x y=G)∧Hid (Below w.heap.size w wr)) (fun _ yv _=>(intOf yv).toNat)
     case atStart=>exact⟨Y,R,rfl,rfl,hYs,hRs,HGY,HB16⟩
     case round=>
      clear HGY HB16 hYs hRs
      obtain⟨x,y,rfl,rfl,hxs,hys,HG,HBr⟩:=hrel
      by_cases hy0:0 < y
      ·have hyi:(0:Int) < (y:Int):=by omega
       obtain⟨z,hz⟩:∃z:Nat,(x:Int) % (y:Int)=(z:Int):=⟨x % y,by rw[Int.natCast_emod]⟩
       have hze:x % y=z:=by have:=Int.natCast_emod x y;omega
       have Hz:=hd_ (hi_ (X:=x) (Y:=y) (by omega))
       rw[hze] at Hz
       have hzs:z < y:=Hz.out.2
       clear hze
       go_wp2
       go_quiet (fail)
       rw[hz]
       have HBd:=hd_ (below_drewN HBr.out nq)
       go_wp2
       go_roundw
       case rel=>exact⟨y,z,rfl,rfl,hys,by omega,hd_ (Hz.out.1.trans HG.out),HBd⟩
       case measure=>simp[intOf];omega
      ·obtain rfl:y=0:=by omega
       have HGx:Hid (x=G):=hd_ (by rw[←HG.out,Nat.gcd_zero_right])
       go_wp2_with fail
       refine (natSaid.of x _ (by omega)).mono ?_
       rintro e w7 ⟨a7,n7,c7,rfl,h7,hB7⟩
       rw[HGx.out] at h7
       have H7:=hd_ h7
       clear h7
       go_wp2
       go_ret
       exact⟨a7,n7,c7,rfl,by rw[HGe.out];exact H7.out,ab_ HBr.out hB7⟩
 ·have hc:¬cmpI X0 Y0 < 0:=by unfold cmpI;split <;> (try split) <;> omega
  have HSs:=hd_ (HS.out.2 hlt)
  clear hlt HS
  generalize cmpI X0 Y0=c at *
  go_wp2
  go_loopw [0,1] (fun xv yv wr=>qf_ G 83886080000 w xv yv wr) (fun _ yv wr=>kd_ wr yv)
  case atStart=>exact⟨ax,nx,cx,ay,ny,cy,X0,Y0,rfl,rfl,Hx3,Hy3,hnx,hny,HSs,HB3⟩
  case round=>
   clear Hx3 Hy3 hnx hny HSs HB3 hc
   obtain⟨a,n,cap,b,m,cap',X,Y,rfl,rfl,HX,HY,hn,hm,HXY,HB⟩:=hrel
   have HvX:Hid (val (dg X)=X):=hd_ (a3_ X)
   have HvY:Hid (val (dg Y)=Y):=hd_ (a3_ Y)
   by_cases hm2:2 < m
   ·have HmY:=hd_ HY.out.held_any
    rw[HvY.out] at HmY
    have hmn:m≤n:=by rw[←HX.out.len,←HY.out.len];exact ax_ HXY.out.1
    obtain⟨k,rfl⟩:∃k,n=k+3:=⟨n - 3,by omega⟩
    have HY0:Hid (Y≠0):=hd_ (fun h=>by have:=HY.out.len;rw[h,cu_] at this;simp at this;omega)
    have HYX:Hid (Y≤X):=hd_ HXY.out.1
    have hm2i:(2:Int) < (m:Int):=by omega
    go_wp2_with fail
    refine (j2_ a k cap b m cap' X Y _ HX.out HY.out (by omega) (by omega) HYX HY0).mono ?_
    rintro e w4 ⟨a4,n4,c4,b4,m4,d4,X4,Y4,rfl,h4,k4,HL,hB4⟩
    have H4:=hd_ h4
    have K4:=hd_ k4
    have hn4:n4≤83886080000:=by have h1:=h4.len;have h2:=ax_ HL.out.1;have h3:=HY.out.len;omega
    have hm4:m4≤83886080000:=by have h1:=k4.len;have h2:=ax_ (Nat.le_of_lt HL.out.2.1);have h3:=HY.out.len;omega
    have HB4:=hd_ (ab_ HB.out hB4)
    have HmK:=hd_ k4.held_any
    rw[a3_] at HmK
    clear h4 k4 hB4
    go_wp2
    go_roundw
    case rel=>exact⟨a4,n4,c4,b4,m4,d4,X4,Y4,rfl,rfl,H4,K4,hn4,hm4,hd_ ⟨HL.out.2.2.1,HL.out.2.2.2.trans HXY.out.2⟩,HB4⟩
    case measure=>rw[HmK.out,HmY.out];exact HL.out.2.1
   ·have hm2i:¬(2:Int) < (m:Int):=by omega
    by_cases hm0:m=0
    ·subst hm0
     have HGX:Hid (X=G):=hd_ (by rw[←HXY.out.2,dg_nil_iff.1 HY.out.len,Nat.gcd_zero_right])
     go_wp2
     go_ret
     exact⟨a,n,cap,rfl,by rw[HGe.out,←HGX.out];exact HX.out,HB.out⟩
    ·have hmb:((m:Int) == 0)=false:=by simp;omega
     have HY0:Hid (Y≠0):=hd_ (fun h=>by have:=HY.out.len;rw[h,cu_] at this;simp at this;omega)
     have hYs:Y < 18446744073709551616:=qn_ HY.out.len (by omega)
     have hRs:X % Y < 18446744073709551616:=Nat.lt_trans (Nat.mod_lt _ (Nat.pos_of_ne_zero HY0.out)) hYs
     have HGY:Hid (Nat.gcd Y (X % Y)=G):=hd_ ((hi_ HY0.out).1.trans HXY.out.2)
     go_wp2_with fail
     refine (ld_ _ _ _ _ _ _ _ _ _ HX.out HY.out (by omega) (by omega) (by rw[HvY.out];exact HY0)).mono ?_
     rintro e w4 ⟨a4,n4,c4,b4,m4,d4,rfl,h4,k4,hB4⟩
     rw[HvX.out,HvY.out] at k4
     have K4:=hd_ k4
     have hm4:m4≤83886080000:=by have h1:=k4.len;have h2:=ax_ (Nat.le_of_lt (Nat.mod_lt X (Nat.pos_of_ne_zero HY0.out)));have h3:=HY.out.len;omega
     have HY4:=HY.l_ hB4
     have hB14:=ab_ HB.out hB4
     obtain⟨R,hR⟩:∃R,R=X % Y:=⟨_,rfl⟩
     rw[←hR] at hRs HGY K4
     have HvR:Hid (val (dg R)=R):=hd_ (a3_ R)
     have HsY:=hd_ (j3_ hYs)
     have HsR:=hd_ (j3_ hRs)
     clear h4 k4 hB4 hR HX HY HB HXY HY0
     go_wp2_with fail
     refine (natSaid.small _ _ _ _ _ HY4.out (by omega)).mono ?_
     rintro e w5 ⟨rfl,hB5⟩
     rw[HvY.out,HsY.out.1,HsY.out.2]
     have K5:=K4.l_ hB5
     have hB15:=ab_ hB14 hB5
     clear K4 HY4 hB14 hB5 HvX HvY HsY
     go_wp2_with fail
     refine (natSaid.small _ _ _ _ _ K5.out (by omega)).mono ?_
     rintro e w6 ⟨rfl,hB6⟩
     rw[HvR.out,HsR.out.1,HsR.out.2]
     have HB16:=hd_ (ab_ hB15 hB6)
     clear K5 hB15 hB6 HvR HsR
     go_wp2
     go_loopw [8,10] (fun xv yv wr=>∃x y:Nat,xv=.int .u64 (x:Int)∧yv=.int .u64 (y:Int)∧x < 18446744073709551616∧y < 18446744073709551616∧Hid (Nat.gcd x y=G)∧Hid (Below w.heap.size w wr)) (fun _ yv _=>(intOf yv).toNat)
     case atStart=>exact⟨Y,R,rfl,rfl,hYs,hRs,HGY,HB16⟩
     case round=>
      clear HGY HB16 hYs hRs
      obtain⟨x,y,rfl,rfl,hxs,hys,HG,HBr⟩:=hrel
      by_cases hy0:0 < y
      ·have hyi:(0:Int) < (y:Int):=by omega
       obtain⟨z,hz⟩:∃z:Nat,(x:Int) % (y:Int)=(z:Int):=⟨x % y,by rw[Int.natCast_emod]⟩
       have hze:x % y=z:=by have:=Int.natCast_emod x y;omega
       have Hz:=hd_ (hi_ (X:=x) (Y:=y) (by omega))
       rw[hze] at Hz
       have hzs:z < y:=Hz.out.2
       clear hze
       go_wp2
       go_quiet (fail)
       rw[hz]
       have HBd:=hd_ (below_drewN HBr.out nq)
       go_wp2
       go_roundw
       case rel=>exact⟨y,z,rfl,rfl,hys,by omega,hd_ (Hz.out.1.trans HG.out),HBd⟩
       case measure=>simp[intOf];omega
      ·obtain rfl:y=0:=by omega
       have HGx:Hid (x=G):=hd_ (by rw[←HG.out,Nat.gcd_zero_right])
       go_wp2_with fail
       refine (natSaid.of x _ (by omega)).mono ?_
       rintro e w7 ⟨a7,n7,c7,rfl,h7,hB7⟩
       rw[HGx.out] at h7
       have H7:=hd_ h7
       clear h7
       go_wp2
       go_ret
       exact⟨a7,n7,c7,rfl,by rw[HGe.out];exact H7.out,ab_ HBr.out hB7⟩
theorem pp_(x y:Nat):(dg (Nat.gcd x y)).length≤(dg x).length+(dg y).length:=by
 by_cases h:x=0
 ·rw[h,Nat.gcd_zero_left];omega
 ·have:=ax_ (Nat.le_of_dvd (Nat.pos_of_ne_zero h) (Nat.gcd_dvd_left x y));omega
theorem km_{A B:Nat}:A % Nat.gcd A B=0:=Nat.mod_eq_zero_of_dvd (Nat.gcd_dvd_left A B)
theorem jy_{A B:Nat}:B % Nat.gcd A B=0:=Nat.mod_eq_zero_of_dvd (Nat.gcd_dvd_right A B)
theorem os_{v x:Nat}(h:v % x=0):m8_ v x=dg (v / x):=if_pos h
theorem jf_(a:OA_)(n cap:Nat)(la:List Nat)(b:OA_)(m cap':Nat)(lb:List Nat)(w:World)(ha:Wd w a n cap la)(hb:Wd w b m cap' lb)(hn:n≤41943040000)(hm:m≤41943040000) :
 Calls Tryz.prog 87 #[.slice a n cap,.slice b m cap'] w (Pair2 (dg (val la / Nat.gcd (val la) (val lb))) (dg (val lb / Nat.gcd (val la) (val lb))) w):=by
 have hgl:=pp_ (val la) (val lb)
 have hla:(dg (val la)).length≤n:=ha.trim_le
 have hlb:(dg (val lb)).length≤m:=hb.trim_le
 have Ha:=hd_ ha
 have Hb:=hd_ hb
 clear ha hb
 go_enter Tryz.func87,Tryz.ntmps87
 go_wp2_with fail
 refine (vn_ _ _ _ _ _ _ _ _ _ Ha.out Hb.out (by omega) (by omega)).mono ?_
 rintro e w1 ⟨a1,n1,c1,rfl,h1,hB1⟩
 have H1:=hd_ h1
 have hn1:n1≤83886080000:=by have:=h1.len;omega
 have Ha1:=Ha.l_ hB1
 have Hb1:=Hb.l_ hB1
 clear h1 Ha Hb
 by_cases h0:Nat.gcd (val la) (val lb)=0
 ·have HL:Hid (dg (val la / Nat.gcd (val la) (val lb))=[]∧dg (val lb / Nat.gcd (val la) (val lb))=[]):=hd_ (by rw[h0,Nat.div_zero,Nat.div_zero,cu_];exact⟨rfl,rfl⟩)
  go_wp2_with fail
  refine (hw_ _ _ _ _ _ _ _ _ H1.out (by omega) (hd_ (by rw[a3_];exact h0))).mono ?_
  rintro e w2 ⟨a2,n2,c2,rfl,h2,hB2⟩
  have H2:=hd_ h2
  have H12:=H1.l_ hB2
  clear h2
  go_wp2_with fail
  refine (hw_ _ _ _ _ _ _ _ _ H12.out (by omega) (hd_ (by rw[a3_];exact h0))).mono ?_
  rintro e w3 ⟨a3,n3,c3,rfl,h3,hB3⟩
  have H3:=hd_ h3
  have H23:=H2.l_ hB3
  clear h3
  go_wp2
  go_ret2
  exact⟨a2,n2,c2,a3,n3,c3,rfl,by rw[HL.out.1];exact H23.out,by rw[HL.out.2];exact H3.out,ab_ hB1 (ab_ hB2 hB3)⟩
 ·have HL:Hid (m8_ (val la) (val (dg (Nat.gcd (val la) (val lb))))=dg (val la / Nat.gcd (val la) (val lb))):=hd_ (by rw[a3_];exact os_ km_)
  have HR:Hid (m8_ (val lb) (val (dg (Nat.gcd (val la) (val lb))))=dg (val lb / Nat.gcd (val la) (val lb))):=hd_ (by rw[a3_];exact os_ jy_)
  go_wp2_with fail
  refine (nw_ _ _ _ _ _ _ _ _ _ Ha1.out H1.out (by omega) (by omega) (hd_ (by rw[a3_];exact h0))).mono ?_
  rintro e w2 ⟨a2,n2,c2,rfl,h2,hB2⟩
  rw[HL.out] at h2
  have H2:=hd_ h2
  have H12:=H1.l_ hB2
  have Hb2:=Hb1.l_ hB2
  clear h2
  go_wp2_with fail
  refine (nw_ _ _ _ _ _ _ _ _ _ Hb2.out H12.out (by omega) (by omega) (hd_ (by rw[a3_];exact h0))).mono ?_
  rintro e w3 ⟨a3,n3,c3,rfl,h3,hB3⟩
  rw[HR.out] at h3
  have H3:=hd_ h3
  have H23:=H2.l_ hB3
  clear h3
  go_wp2
  go_ret2
  exact⟨a2,n2,c2,a3,n3,c3,rfl,H23.out,H3.out,ab_ hB1 (ab_ hB2 hB3)⟩
theorem ta_(neg:Bool)(a:OA_)(n cap:Nat)(b:OA_)(m cap':Nat)(w:World) :
 Calls Tryz.prog 91 #[frV neg a n cap b m cap'] w (bf_ (frV (!neg) a n cap b m cap') w):=by
 have HG:Hid (((w.alloc (.cells #[.bool (!neg),.slice a n cap,.slice b m cap'] 44)).alloc (.cells #[.bool (!neg),.slice a n cap,.slice b m cap'] 44)).heap[w.heap.size+1]? = some (.cells #[.bool (!neg),.slice a n cap,.slice b m cap'] 44 (0,0))):=hd_ (c0_ w ((w.alloc (.cells #[.bool (!neg),.slice a n cap,.slice b m cap'] 44)).alloc (.cells #[.bool (!neg),.slice a n cap,.slice b m cap'] 44)) _ _ _ _ (Below.refl _ _)).2
 have HB:=hd_ (ab_ (aa_ w (.cells #[.bool (!neg),.slice a n cap,.slice b m cap'] 44)) (aa_ _ (.cells #[.bool (!neg),.slice a n cap,.slice b m cap'] 44)))
 go_enter Tryz.func91,Tryz.ntmps91
 unfold frV
 go_wp2
 refine bodyPost_ret (results_cell_row Tryz.results91 _ _ (w.heap.size+1) 44 #[.bool (!neg),.slice a n cap,.slice b m cap'] (0,0) _ rfl HG.out Tryz.underlying44 rfl (by kernel_rfl)) rfl ?_
 exact⟨rfl,HB.out⟩
theorem v7_(neg:Bool)(a:OA_)(n cap:Nat)(b:OA_)(m cap':Nat)(w:World) :
 Calls Tryz.prog 108 #[frV neg a n cap b m cap'] w (bf_ (frV neg b m cap' a n cap) w):=by
 have HG:Hid (((w.alloc (.cells #[.bool neg,.slice a n cap,.slice b m cap'] 44)).alloc (.cells #[.bool neg,.slice b m cap',.slice a n cap] 44)).heap[w.heap.size+1]? = some (.cells #[.bool neg,.slice b m cap',.slice a n cap] 44 (0,0))):=hd_ (c0_ w ((w.alloc (.cells #[.bool neg,.slice a n cap,.slice b m cap'] 44)).alloc (.cells #[.bool neg,.slice b m cap',.slice a n cap] 44)) _ _ _ _ (Below.refl _ _)).2
 have HB:=hd_ (ab_ (aa_ w (.cells #[.bool neg,.slice a n cap,.slice b m cap'] 44)) (aa_ _ (.cells #[.bool neg,.slice b m cap',.slice a n cap] 44)))
 go_enter Tryz.func108,Tryz.ntmps108
 unfold frV
 go_wp2
 refine bodyPost_ret (results_cell_row Tryz.results108 _ _ (w.heap.size+1) 44 #[.bool neg,.slice b m cap',.slice a n cap] (0,0) _ rfl HG.out Tryz.underlying44 rfl (by kernel_rfl)) rfl ?_
 exact⟨rfl,HB.out⟩
theorem ij_(neg:Bool)(a:OA_)(n cap:Nat)(la:List Nat)(b:OA_)(m cap':Nat)(lb:List Nat)(w:World)(ha:Wd w a n cap la)(hb:Wd w b m cap' lb)(hn:n≤104857600000)(hm:m≤104857600000) :
 Calls Tryz.prog 89 #[whV neg a n cap,.slice b m cap'] w (LstZ (zval neg (val la) * (val lb:Int)) w):=by
 have HB:=hd_ (ab_ (aa_ w (.cells #[.bool neg,.slice a n cap] 42)) (aa_ _ (.cells #[.bool false,.slice none 0 0] 42)))
 have HA:=hd_ (ha.later HB.out)
 have HC:=hd_ (hb.later HB.out)
 obtain⟨hx1,hx2⟩:=c0_ w ((w.alloc (.cells #[.bool neg,.slice a n cap] 42)).alloc (.cells #[.bool false,.slice none 0 0] 42)) #[.bool neg,.slice a n cap] #[.bool false,.slice none 0 0] 42 42 (Below.refl _ _)
 have HX:=hd_ hx1
 have HR:=hd_ hx2
 clear hx1 hx2 ha hb
 obtain⟨z,hz⟩:∃z,zval neg (val la) * (val lb:Int)=z:=⟨_,rfl⟩
 rw[hz]
 have HZ:=hd_ hz
 clear hz
 go_enter Tryz.func89,Tryz.ntmps89
 unfold whV
 obtain⟨vk0,vk1,vk2,vk3⟩:=bh_ HX.out HR.out
 go_wp2_with fail
 refine (qi_ neg a n cap la false b m cap' lb _ HA.out HC.out hn hm).mono ?_
 rintro e wv1 ⟨a1,n1,c1,rfl,h1,b⟩
 clear vk0 vk1 vk2 vk3
 replace HB:=bt_ HB b
 replace HX:=bl_ HX b
 replace HR:=bl_ HR b
 clear HA
 clear HC
 clear b
 rw[kl_,HZ.out] at h1 ⊢
 have R1:=hd_ h1
 clear h1
 unfold whV
 obtain⟨r0,r1⟩:=c4_ HR.out
 have f0:=ae_ HR.out 0
 have f1:=ae_ HR.out 1
 have HG:=hd_ (bj_ HR.out (.bool (zneg z)) (.slice a1 n1 c1))
 have HF:=hd_ (R1.out.stored2 HR.out (zneg z) (.slice a1 n1 c1))
 have HL:=hd_ (ay_ HB.out (show w.heap.size≤w.heap.size+1 by omega) (.bool (zneg z)) (.slice a1 n1 c1))
 go_wp2
 refine bodyPost_ret (results_cell_row Tryz.results89 _ _ (w.heap.size+1) 42 #[.bool (zneg z),.slice a1 n1 c1] (0,0) _ rfl HG.out Tryz.underlying42 rfl (by kernel_rfl)) rfl ?_
 exact⟨a1,n1,c1,rfl,HF.out,HL.out⟩
theorem e6_(x:Int)(w:World)(hx:f6_ x):Calls Tryz.prog 47 #[.int .i64 x] w (LstQ (x:Rat) w):=by
 have HX:=hd_ hx
 have HB:=hd_ (aa_ w (.cells #[.bool false,.slice none 0 0,.slice none 0 0] 44))
 have HR:=hd_ (ai_ w #[.bool false,.slice none 0 0,.slice none 0 0] 44)
 have HO:∀w':World,Calls Tryz.prog 97 #[.int .u64 1] w' (Lst (dg 1) w'):=fun w'=>natSaid.of 1 w' (by omega)
 have HN:Hid (x=(x:Rat).num):=hd_ (Rat.num_intCast x).symm
 have HD:Hid (1=(x:Rat).den):=hd_ (Rat.den_intCast x).symm
 clear hx
 generalize (x:Rat)=q at *
 go_enter Tryz.func47,Tryz.ntmps47
 obtain⟨vk0,vk1,vk2⟩:=ao_ HR.out
 go_wp2_with fail
 refine (whole_of x _ HX.out).mono ?_
 rintro e wv1 ⟨a1,n1,c1,rfl,h1,b⟩
 clear vk0 vk1 vk2
 replace HB:=bt_ HB b
 replace HR:=bl_ HR b
 clear b
 have R1:=hd_ h1
 clear h1
 unfold whV
 obtain⟨vk0,vk1,vk2⟩:=ao_ HR.out
 go_wp2_with fail
 refine (HO _).mono ?_
 rintro e wv2 ⟨b1,m1,d1,rfl,g1,b⟩
 clear vk0 vk1 vk2
 replace HB:=bt_ HB b
 replace HR:=bl_ HR b
 replace R1:=R1.l_ b
 clear b
 have T1:=hd_ g1
 clear g1
 generalize hz:zneg x=s at *
 have HS:=hd_ hz
 clear hz
 have q0:=ad_ HR.out 0
 have q1:=ad_ HR.out 1
 have q2:=ad_ HR.out 2
 simp only[List.getElem?_toArray,List.getElem?_cons_zero,List.getElem?_cons_succ] at q0 q1 q2
 have f0:=ae_ HR.out 0
 have f1:=ae_ HR.out 1
 have f2:=ae_ HR.out 2
 replace R1:=hd_ (R1.out.stored3 HR.out (s) a1 n1 c1 (.slice b1 m1 d1))
 replace T1:=hd_ (T1.out.stored3 HR.out (s) a1 n1 c1 (.slice b1 m1 d1))
 replace HB:=hd_ (as_ HB.out (show w.heap.size≤w.heap.size by omega) (.bool s) (.slice a1 n1 c1) (.slice b1 m1 d1))
 replace HR:=hd_ (be_ HR.out (.bool s) (.slice a1 n1 c1) (.slice b1 m1 d1))
 go_wp2
 refine bodyPost_ret (results_cell_row Tryz.results47 _ _ (w.heap.size) 44 #[.bool s,.slice a1 n1 c1,.slice b1 m1 d1] (0,0) _ rfl HR.out Tryz.underlying44 rfl (by kernel_rfl)) rfl ?_
 refine ⟨a1,n1,c1,b1,m1,d1,?_,?_,?_,HB.out⟩
 ·rw[←HN.out,HS.out];rfl
 ·rw[←HN.out];exact R1.out
 ·rw[←HD.out];exact T1.out
def LstR (z:Int) (v:Nat) (w:World) (e:Ending) (w':World):Prop:=
 ∃(a:OA_) (n cap:Nat) (b:OA_) (m cap':Nat),e=.returned (frV (zneg z) a n cap b m cap')∧Wd w' a n cap (dg z.natAbs)∧Wd w' b m cap' (dg v)∧Below w.heap.size w w'
theorem gr_(neg:Bool)(a:OA_)(n cap:Nat)(la:List Nat)(b:OA_)(m cap':Nat)(lb:List Nat)(w:World)(ha:Wd w a n cap la)(hb:Wd w b m cap' lb)(hn:n≤104857600000)(hm:m≤104857600000) :
 Calls Tryz.prog 44 #[frV neg a n cap b m cap'] w (bf_ (.int .i64 (sgn (qval neg (val la) (val lb)).num)) w):=by
 have HB:=hd_ (aa_ w (.cells #[.bool neg,.slice a n cap,.slice b m cap'] 44))
 have HA:=hd_ (ha.later HB.out)
 have HC:=hd_ (hb.later HB.out)
 have HX:=hd_ (ai_ w #[.bool neg,.slice a n cap,.slice b m cap'] 44)
 clear ha hb
 have HZ0:Hid (val lb=0→sgn (qval neg (val la) (val lb)).num=0):=hd_ (fun h=>by rw[ef_ neg (.inl h)];rfl)
 have HZ1:Hid (val lb≠0→sgn (qval neg (val la) (val lb)).num=sgn (zval neg (val la))):=hd_ (fun h=>fc_qsign h)
 generalize (qval neg (val la) (val lb)).num=y at *
 go_enter Tryz.func44,Tryz.ntmps44
 unfold frV
 obtain⟨vk0,vk1,vk2⟩:=ao_ HX.out
 go_wp2_with fail
 refine (natSaid.zero b m cap' lb _ HC.out (by omega)).mono ?_
 rintro e wv1 ⟨rfl,b⟩
 clear vk0 vk1 vk2
 replace HB:=bt_ HB b
 replace HX:=bl_ HX b
 replace HA:=HA.l_ b
 replace HC:=HC.l_ b
 clear b
 by_cases h0:val lb=0
 ·have HS:=hd_ (HZ0.out h0)
  rw[decide_eq_true h0]
  clear h0 HZ0 HZ1
  go_wp2
  go_ret
  exact⟨by rw[HS.out];rfl,HB.out⟩
 ·have HS:=hd_ (HZ1.out h0)
  rw[decide_eq_false h0]
  clear h0 HZ0 HZ1
  obtain⟨k0,k1,k2⟩:=ao_ HX.out
  go_wp2_with fail
  refine (ka_ neg a n cap la _ HA.out hn).mono ?_
  rintro e w2 ⟨rfl,b⟩
  go_wp2
  go_ret
  exact⟨by rw[HS.out];rfl,ab_ HB.out b⟩
theorem qg_(na:Bool)(a:OA_)(n cap:Nat)(la:List Nat)(b:OA_)(m cap':Nat)(lb:List Nat)(nb:Bool)(a':OA_)(n' c':Nat)(la':List Nat)(b':OA_)(m' d':Nat)(lb':List Nat)(w:World)(ha:Wd w a n cap la)(hb:Wd w b m cap' lb)(ha':Wd w a' n' c' la')(hb':Wd w b' m' d' lb')(hn:n≤104857600000)(hm:m≤104857600000)(hn':n'≤104857600000)(hm':m'≤104857600000) :
 Calls Tryz.prog 92 #[frV na a n cap b m cap',frV nb a' n' c' b' m' d'] w (LstR (zval na (val la) * zval nb (val la')) (val lb * val lb') w):=by
 have HB:=hd_ (ab_ (ab_ (aa_ w (.cells #[.bool na,.slice a n cap,.slice b m cap'] 44)) (aa_ _ (.cells #[.bool nb,.slice a' n' c',.slice b' m' d'] 44))) (aa_ _ (.cells #[.bool false,.slice none 0 0,.slice none 0 0] 44)))
 have HA:=hd_ (ha.later HB.out)
 have HC:=hd_ (hb.later HB.out)
 have HA':=hd_ (ha'.later HB.out)
 have HC':=hd_ (hb'.later HB.out)
 obtain⟨hx1,hx2,hx3⟩:=eo_ w #[.bool na,.slice a n cap,.slice b m cap'] #[.bool nb,.slice a' n' c',.slice b' m' d'] #[.bool false,.slice none 0 0,.slice none 0 0] 44 44 44
 have HX:=hd_ hx1
 have HY:=hd_ hx2
 have HR:=hd_ hx3
 have ta:=ha.trim_le
 have tb:=hb.trim_le
 have ta':=ha'.trim_le
 have tb':=hb'.trim_le
 clear ha hb ha' hb' hx1 hx2 hx3
 obtain⟨z,hz⟩:∃z,zval na (val la) * zval nb (val la')=z:=⟨_,rfl⟩
 rw[hz]
 have HZ:=hd_ hz
 clear hz
 go_enter Tryz.func92,Tryz.ntmps92
 unfold frV
 go_wp2
 generalize (((w.alloc (.cells #[.bool na,.slice a n cap,.slice b m cap'] 44)).alloc (.cells #[.bool nb,.slice a' n' c',.slice b' m' d'] 44)).alloc (.cells #[.bool false,.slice none 0 0,.slice none 0 0] 44))=W at *
 replace HB:=bt_ HB (dw_ W)
 replace HX:Hid (W.drew.heap[w.heap.size]? = _):=hd_ HX.out
 replace HY:Hid (W.drew.heap[w.heap.size+1]? = _):=hd_ HY.out
 replace HR:Hid (W.drew.heap[w.heap.size+1+1]? = some (.cells #[.bool false,.slice none 0 0,.slice none 0 0] 44 (0,0))):=hd_ HR.out
 replace HA:=HA.l_ (dw_ W)
 replace HC:=HC.l_ (dw_ W)
 replace HA':=HA'.l_ (dw_ W)
 replace HC':=HC'.l_ (dw_ W)
 have pSn:=bc_ HX.out HY.out
 go_region_held3 (fun w'=>w'.cell? ⟨w.heap.size,0,none⟩=some (.bool na)∧w'.cell? ⟨w.heap.size,1,none⟩=some (.slice a n cap)∧w'.cell? ⟨w.heap.size,2,none⟩=some (.slice b m cap')∧w'.cell? ⟨w.heap.size+1,0,none⟩=some (.bool nb)∧w'.cell? ⟨w.heap.size+1,1,none⟩=some (.slice a' n' c')∧w'.cell? ⟨w.heap.size+1,2,none⟩=some (.slice b' m' d')) (first | exact pSn | exact pSb _ _ _)
  (first
  | (go_at_call 132;(first
    | (refine (qi_ na a n cap la nb a' n' c' la' _ HA.out HA'.out (by omega) (by omega)).mono ?_;rintro e wp1 ⟨a1,n1,c1,rfl,h1,b⟩;replace HB:=bt_ HB b;replace HX:=bl_ HX b;replace HY:=bl_ HY b;replace HR:=bl_ HR b;replace HA:=HA.l_ b;replace HC:=HC.l_ b;replace HA':=HA'.l_ b;replace HC':=HC'.l_ b;rw[HZ.out] at h1 ⊢;have R1:=hd_ h1;clear h1;unfold whV;clear b;clear pSn;have pSn:=bc_ HX.out HY.out;have pM1:=True.intro)))
  | (go_at_call 90;(first
    | (have pm1:=pM1;refine (pv_ b m cap' lb b' m' d' lb' _ HC.out HC'.out (by omega) (by omega)).mono ?_;rintro e wp2 ⟨b1,m1,d1,rfl,g1,b⟩;replace HB:=bt_ HB b;replace HX:=bl_ HX b;replace HY:=bl_ HY b;replace HR:=bl_ HR b;replace HA:=HA.l_ b;replace HC:=HC.l_ b;replace HA':=HA'.l_ b;replace HC':=HC'.l_ b;replace R1:=R1.l_ b;have T1:=hd_ g1;clear g1;obtain⟨r0,r1,r2⟩:=ao_ HR.out;have f0:=ae_ HR.out 0;have f1:=ae_ HR.out 1;have f2:=ae_ HR.out 2;have pSb:=fun u v q=>bc_ (bk_ (g:=w.heap.size+1+1) HX.out (by omega) u v q) (bk_ (g:=w.heap.size+1+1) HY.out (by omega) u v q);clear b;clear pSn;have pSn:=bc_ HX.out HY.out;clear pM1 pm1;have pM2:=True.intro))))
 have HG:=hd_ (be_ HR.out (.bool (zneg z)) (.slice a1 n1 c1) (.slice b1 m1 d1))
 have HL:=hd_ (as_ HB.out (show w.heap.size≤w.heap.size+1+1 by omega) (.bool (zneg z)) (.slice a1 n1 c1) (.slice b1 m1 d1))
 have HW1:=hd_ (R1.out.stored3 HR.out (zneg z) a1 n1 c1 (.slice b1 m1 d1))
 have HW2:=hd_ (T1.out.stored3 HR.out (zneg z) a1 n1 c1 (.slice b1 m1 d1))
 go_wp2
 refine bodyPost_ret (results_cell_row Tryz.results92 _ _ (w.heap.size+1+1) 44 #[.bool (zneg z),.slice a1 n1 c1,.slice b1 m1 d1] (0,0) _ rfl HG.out Tryz.underlying44 rfl (by kernel_rfl)) rfl ?_
 exact⟨a1,n1,c1,b1,m1,d1,rfl,HW1.out,HW2.out,HL.out⟩
theorem frac_new(neg:Bool)(a:OA_)(n cap:Nat)(la:List Nat)(b:OA_)(m cap':Nat)(lb:List Nat)(w:World)(ha:Wd w a n cap la)(hb:Wd w b m cap' lb)(hn:n≤41943040000)(hm:m≤41943040000) :
 Calls Tryz.prog 126 #[whV neg a n cap,.slice b m cap'] w (en_ (qval neg (val la) (val lb)) (.bool (decide (val lb≠0))) w):=by
 have HB:=hd_ (ab_ (aa_ w (.cells #[.bool neg,.slice a n cap] 42)) (aa_ _ (.cells #[.bool false,.slice none 0 0,.slice none 0 0] 44)))
 have HA:=hd_ (ha.later HB.out)
 have HC:=hd_ (hb.later HB.out)
 obtain⟨hx1,hx2⟩:=c0_ w ((w.alloc (.cells #[.bool neg,.slice a n cap] 42)).alloc (.cells #[.bool false,.slice none 0 0,.slice none 0 0] 44)) #[.bool neg,.slice a n cap] #[.bool false,.slice none 0 0,.slice none 0 0] 42 44 (Below.refl _ _)
 have HX:=hd_ hx1
 have HR:=hd_ hx2
 have ta:=ha.trim_le
 clear hx1 hx2 ha hb
 obtain⟨q,hq⟩:∃q,qval neg (val la) (val lb)=q:=⟨_,rfl⟩
 rw[hq]
 have HQ:=hd_ hq
 clear hq
 go_enter Tryz.func126,Tryz.ntmps126
 unfold whV
 obtain⟨vk0,vk1,vk2,vk3,vk4⟩:=cb_ HX.out HR.out
 go_wp2_with fail
 refine (natSaid.zero b m cap' lb _ HC.out (by omega)).mono ?_
 rintro e wv1 ⟨rfl,b⟩
 clear vk0 vk1 vk2 vk3 vk4
 replace HB:=bt_ HB b
 replace HX:=bl_ HX b
 replace HR:=bl_ HR b
 replace HA:=HA.l_ b
 replace HC:=HC.l_ b
 clear b
 by_cases h0:val lb=0
 ·have HD:Hid (decide (val lb≠0)=false):=hd_ (by rw[decide_eq_false];exact fun h=>h h0)
  have HQ0:Hid (((0:Int):Rat)=q):=hd_ (by rw[←HQ.out,ef_ neg (.inl h0)];rfl)
  rw[decide_eq_true h0]
  clear h0 HQ
  clear HA HC
  obtain⟨uk0,uk1,uk2,uk3,uk4⟩:=cb_ HX.out HR.out
  go_wp2_with fail
  refine (e6_ 0 _ c5_).mono ?_
  rintro e wu1 ⟨a1,n1,c1,b1,m1,d1,rfl,h1,g1,b⟩
  clear uk0 uk1 uk2 uk3 uk4
  replace HB:=bt_ HB b
  replace HX:=bl_ HX b
  replace HR:=bl_ HR b
  clear b
  rw[HQ0.out] at h1 g1 ⊢
  have R1:=hd_ h1
  have T1:=hd_ g1
  clear h1 g1
  unfold frV
  have q0:=ad_ HR.out 0
  have q1:=ad_ HR.out 1
  have q2:=ad_ HR.out 2
  simp only[List.getElem?_toArray,List.getElem?_cons_zero,List.getElem?_cons_succ] at q0 q1 q2
  have f0:=ae_ HR.out 0
  have f1:=ae_ HR.out 1
  have f2:=ae_ HR.out 2
  replace HX:=hd_ (bk_ HX.out (show w.heap.size≠w.heap.size+1 by omega) (.bool (zneg q.num)) (.slice a1 n1 c1) (.slice b1 m1 d1))
  replace R1:=hd_ (R1.out.stored3 HR.out ((zneg q.num)) a1 n1 c1 (.slice b1 m1 d1))
  replace T1:=hd_ (T1.out.stored3 HR.out ((zneg q.num)) a1 n1 c1 (.slice b1 m1 d1))
  replace HB:=hd_ (as_ HB.out (show w.heap.size≤w.heap.size+1 by omega) (.bool (zneg q.num)) (.slice a1 n1 c1) (.slice b1 m1 d1))
  replace HR:=hd_ (be_ HR.out (.bool (zneg q.num)) (.slice a1 n1 c1) (.slice b1 m1 d1))
  go_wp2
  refine bodyPost_ret (bo_ Tryz.results126 _ _ (w.heap.size+1) 44 #[.bool (zneg q.num),.slice a1 n1 c1,.slice b1 m1 d1] (0,0) _ rfl HR.out Tryz.underlying44 rfl (by kernel_rfl)) rfl ?_
  exact⟨a1,n1,c1,b1,m1,d1,by rw[HD.out];rfl,R1.out,T1.out,HB.out⟩
 ·have HD:Hid (decide (val lb≠0)=true):=hd_ (decide_eq_true h0)
  have HZ:Hid (zval neg (val (dg (val la / Nat.gcd (val la) (val lb))))=q.num):=hd_ (by rw[a3_,←HQ.out];exact (e9_ neg h0).1.symm)
  have HE:Hid (val lb / Nat.gcd (val la) (val lb)=q.den):=hd_ (by rw[←HQ.out];exact (e9_ neg h0).2.symm)
  have ql:(dg (val la / Nat.gcd (val la) (val lb))).length≤n:=Nat.le_trans (ax_ (Nat.div_le_self _ _)) ta
  rw[decide_eq_false h0]
  clear h0 HQ
  obtain⟨uk0,uk1,uk2,uk3,uk4⟩:=cb_ HX.out HR.out
  go_wp2_with fail
  refine (jf_ a n cap la b m cap' lb _ HA.out HC.out hn hm).mono ?_
  rintro e wu1 ⟨a1,n1,c1,b2,m2,d2,rfl,h1,g2,b⟩
  clear uk0 uk1 uk2 uk3 uk4
  replace HB:=bt_ HB b
  replace HX:=bl_ HX b
  replace HR:=bl_ HR b
  clear HA
  clear HC
  clear b
  rw[HE.out] at g2
  have ln1:=h1.len
  have R1:=hd_ h1
  have T2:=hd_ g2
  clear h1 g2
  obtain⟨uk0,uk1,uk2,uk3,uk4⟩:=cb_ HX.out HR.out
  go_wp2_with fail
  refine (u9_ neg a1 n1 c1 _ _ R1.out (by omega)).mono ?_
  rintro e wu2 ⟨a2,n2,c2,rfl,h2,b⟩
  clear uk0 uk1 uk2 uk3 uk4
  replace HB:=bt_ HB b
  replace HX:=bl_ HX b
  replace HR:=bl_ HR b
  clear R1
  replace T2:=T2.l_ b
  clear b
  rw[HZ.out] at h2 ⊢
  have R2:=hd_ h2
  clear h2
  unfold whV
  have q0:=ad_ HR.out 0
  have q1:=ad_ HR.out 1
  have q2:=ad_ HR.out 2
  simp only[List.getElem?_toArray,List.getElem?_cons_zero,List.getElem?_cons_succ] at q0 q1 q2
  have f0:=ae_ HR.out 0
  have f1:=ae_ HR.out 1
  have f2:=ae_ HR.out 2
  replace HX:=hd_ (bk_ HX.out (show w.heap.size≠w.heap.size+1 by omega) (.bool (zneg q.num)) (.slice a2 n2 c2) (.slice b2 m2 d2))
  replace T2:=hd_ (T2.out.stored3 HR.out ((zneg q.num)) a2 n2 c2 (.slice b2 m2 d2))
  replace R2:=hd_ (R2.out.stored3 HR.out ((zneg q.num)) a2 n2 c2 (.slice b2 m2 d2))
  replace HB:=hd_ (as_ HB.out (show w.heap.size≤w.heap.size+1 by omega) (.bool (zneg q.num)) (.slice a2 n2 c2) (.slice b2 m2 d2))
  replace HR:=hd_ (be_ HR.out (.bool (zneg q.num)) (.slice a2 n2 c2) (.slice b2 m2 d2))
  go_wp2
  refine bodyPost_ret (bo_ Tryz.results126 _ _ (w.heap.size+1) 44 #[.bool (zneg q.num),.slice a2 n2 c2,.slice b2 m2 d2] (0,0) _ rfl HR.out Tryz.underlying44 rfl (by kernel_rfl)) rfl ?_
  exact⟨a2,n2,c2,b2,m2,d2,by rw[HD.out];rfl,R2.out,T2.out,HB.out⟩
theorem jm_(neg:Bool)(a:OA_)(n cap:Nat)(la:List Nat)(b:OA_)(m cap':Nat)(lb:List Nat)(w:World)(ha:Wd w a n cap la)(hb:Wd w b m cap' lb)(hn:n≤41943040000)(hm:m≤41943040000) :
 Calls Tryz.prog 86 #[frV neg a n cap b m cap'] w (LstQ (qval neg (val la) (val lb)) w):=by
 have HB:=hd_ (ab_ (aa_ w (.cells #[.bool neg,.slice a n cap,.slice b m cap'] 44)) (aa_ _ (.cells #[.bool false,.slice none 0 0,.slice none 0 0] 44)))
 have HA:=hd_ (ha.later HB.out)
 have HC:=hd_ (hb.later HB.out)
 obtain⟨hx1,hx2⟩:=c0_ w ((w.alloc (.cells #[.bool neg,.slice a n cap,.slice b m cap'] 44)).alloc (.cells #[.bool false,.slice none 0 0,.slice none 0 0] 44)) #[.bool neg,.slice a n cap,.slice b m cap'] #[.bool false,.slice none 0 0,.slice none 0 0] 44 44 (Below.refl _ _)
 have HX:=hd_ hx1
 have HR:=hd_ hx2
 clear hx1 hx2 ha hb
 obtain⟨q,hq⟩:∃q,qval neg (val la) (val lb)=q:=⟨_,rfl⟩
 rw[hq]
 have HQ:=hd_ hq
 clear hq
 go_enter Tryz.func86,Tryz.ntmps86
 unfold frV
 obtain⟨vk0,vk1,vk2,vk3,vk4,vk5⟩:=bc_ HX.out HR.out
 go_wp2_with fail
 refine (frac_new neg a n cap la b m cap' lb _ HA.out HC.out hn hm).mono ?_
 rintro e wv1 ⟨a1,n1,c1,b1,m1,d1,rfl,h1,g1,b⟩
 clear vk0 vk1 vk2 vk3 vk4 vk5
 replace HB:=bt_ HB b
 replace HX:=bl_ HX b
 replace HR:=bl_ HR b
 clear HA
 clear HC
 clear b
 rw[HQ.out] at h1 g1 ⊢
 have R1:=hd_ h1
 have T1:=hd_ g1
 clear h1 g1
 generalize decide (val lb≠0)=s at *
 unfold frV
 have HP:Hid ((World.alloc wv1 (.cells #[.bool (zneg q.num),.slice a1 n1 c1,.slice b1 m1 d1] 44)).heap[wv1.heap.size]? = some (.cells #[.bool (zneg q.num),.slice a1 n1 c1,.slice b1 m1 d1] 44 (0,0))):=hd_ (ai_ wv1 _ _)
 replace HB:=hd_ (ab_ HB.out (aa_ wv1 (.cells #[.bool (zneg q.num),.slice a1 n1 c1,.slice b1 m1 d1] 44)))
 replace HX:=hd_ (ac_ HX.out (aa_ wv1 (.cells #[.bool (zneg q.num),.slice a1 n1 c1,.slice b1 m1 d1] 44)))
 replace HR:=hd_ (ac_ HR.out (aa_ wv1 (.cells #[.bool (zneg q.num),.slice a1 n1 c1,.slice b1 m1 d1] 44)))
 replace R1:=hd_ (R1.out.later (aa_ wv1 (.cells #[.bool (zneg q.num),.slice a1 n1 c1,.slice b1 m1 d1] 44)))
 replace T1:=hd_ (T1.out.later (aa_ wv1 (.cells #[.bool (zneg q.num),.slice a1 n1 c1,.slice b1 m1 d1] 44)))
 obtain⟨vk0,vk1,vk2,vk3,vk4,vk5,vk6,vk7,vk8⟩:=ct_ HX.out HR.out HP.out
 have q0:=ad_ HR.out 0
 have q1:=ad_ HR.out 1
 have q2:=ad_ HR.out 2
 simp only[List.getElem?_toArray,List.getElem?_cons_zero,List.getElem?_cons_succ] at q0 q1 q2
 have f0:=ae_ HR.out 0
 have f1:=ae_ HR.out 1
 have f2:=ae_ HR.out 2
 replace R1:=hd_ (R1.out.stored3 HR.out ((zneg q.num)) a1 n1 c1 (.slice b1 m1 d1))
 replace T1:=hd_ (T1.out.stored3 HR.out ((zneg q.num)) a1 n1 c1 (.slice b1 m1 d1))
 replace HB:=hd_ (as_ HB.out (show w.heap.size≤w.heap.size+1 by omega) (.bool (zneg q.num)) (.slice a1 n1 c1) (.slice b1 m1 d1))
 replace HR:=hd_ (be_ HR.out (.bool (zneg q.num)) (.slice a1 n1 c1) (.slice b1 m1 d1))
 go_wp2
 refine bodyPost_ret (results_cell_row Tryz.results86 _ _ (w.heap.size+1) 44 #[.bool (zneg q.num),.slice a1 n1 c1,.slice b1 m1 d1] (0,0) _ rfl HR.out Tryz.underlying44 rfl (by kernel_rfl)) rfl ?_
 exact⟨a1,n1,c1,b1,m1,d1,rfl,R1.out,T1.out,HB.out⟩
theorem to_(na:Bool)(a:OA_)(n cap:Nat)(la:List Nat)(b:OA_)(m cap':Nat)(lb:List Nat)(nb:Bool)(a':OA_)(n' c':Nat)(la':List Nat)(b':OA_)(m' d':Nat)(lb':List Nat)(w:World)(ha:Wd w a n cap la)(hb:Wd w b m cap' lb)(ha':Wd w a' n' c' la')(hb':Wd w b' m' d' lb')(hn:n≤15728640000)(hm:m≤15728640000)(hn':n'≤15728640000)(hm':m'≤15728640000) :
 Calls Tryz.prog 43 #[frV na a n cap b m cap',frV nb a' n' c' b' m' d'] w (LstQ (qval na (val la) (val lb) * qval nb (val la') (val lb')) w):=by
 have HB:=hd_ (ab_ (ab_ (aa_ w (.cells #[.bool na,.slice a n cap,.slice b m cap'] 44)) (aa_ _ (.cells #[.bool nb,.slice a' n' c',.slice b' m' d'] 44))) (aa_ _ (.cells #[.bool false,.slice none 0 0,.slice none 0 0] 44)))
 have HA:=hd_ (ha.later HB.out)
 have HC:=hd_ (hb.later HB.out)
 have HA':=hd_ (ha'.later HB.out)
 have HC':=hd_ (hb'.later HB.out)
 obtain⟨hx1,hx2,hx3⟩:=eo_ w #[.bool na,.slice a n cap,.slice b m cap'] #[.bool nb,.slice a' n' c',.slice b' m' d'] #[.bool false,.slice none 0 0,.slice none 0 0] 44 44 44
 have HX:=hd_ hx1
 have HY:=hd_ hx2
 have HR:=hd_ hx3
 have ta:=ha.trim_le
 have tb:=hb.trim_le
 have ta':=ha'.trim_le
 have tb':=hb'.trim_le
 clear ha hb ha' hb' hx1 hx2 hx3
 obtain⟨q,hq⟩:∃q,qval na (val la) (val lb) * qval nb (val la') (val lb')=q:=⟨_,rfl⟩
 rw[hq]
 have HQ:=hd_ hq
 clear hq
 have zl1:=jp_ (zval na (val la)) (zval nb (val la'))
 have zl2:=bp_ (val lb) (val lb')
 rw[d0_,d0_] at zl1
 have HZ:Hid (qval (zneg (zval na (val la) * zval nb (val la'))) (val (dg (zval na (val la) * zval nb (val la')).natAbs)) (val (dg (val lb * val lb')))=q):=hd_ (by rw[a3_,a3_,nq_,sn_,HQ.out])
 go_enter Tryz.func43,Tryz.ntmps43
 unfold frV
 obtain⟨vk0,vk1,vk2,vk3,vk4,vk5,vk6,vk7,vk8⟩:=ct_ HX.out HY.out HR.out
 go_wp2_with fail
 refine (qg_ na a n cap la b m cap' lb nb a' n' c' la' b' m' d' lb' _ HA.out HC.out HA'.out HC'.out (by omega) (by omega) (by omega) (by omega)).mono ?_
 rintro e wv1 ⟨a1,n1,c1,b1,m1,d1,rfl,h1,g1,b⟩
 clear vk0 vk1 vk2 vk3 vk4 vk5 vk6 vk7 vk8
 replace HB:=bt_ HB b
 replace HX:=bl_ HX b
 replace HY:=bl_ HY b
 replace HR:=bl_ HR b
 clear HA
 clear HC
 clear HA'
 clear HC'
 clear b
 have ln1:=h1.len
 have lm1:=g1.len
 have R1:=hd_ h1
 have T1:=hd_ g1
 clear h1 g1
 unfold frV
 obtain⟨vk0,vk1,vk2,vk3,vk4,vk5,vk6,vk7,vk8⟩:=ct_ HX.out HY.out HR.out
 go_wp2_with fail
 refine (jm_ _ a1 n1 c1 _ b1 m1 d1 _ _ R1.out T1.out (by omega) (by omega)).mono ?_
 rintro e wv2 ⟨a2,n2,c2,b2,m2,d2,rfl,h2,g2,b⟩
 clear vk0 vk1 vk2 vk3 vk4 vk5 vk6 vk7 vk8
 replace HB:=bt_ HB b
 replace HX:=bl_ HX b
 replace HY:=bl_ HY b
 replace HR:=bl_ HR b
 clear R1
 clear T1
 clear b
 rw[HZ.out] at h2 g2 ⊢
 have R2:=hd_ h2
 have T2:=hd_ g2
 clear h2 g2
 unfold frV
 have q0:=ad_ HR.out 0
 have q1:=ad_ HR.out 1
 have q2:=ad_ HR.out 2
 simp only[List.getElem?_toArray,List.getElem?_cons_zero,List.getElem?_cons_succ] at q0 q1 q2
 have f0:=ae_ HR.out 0
 have f1:=ae_ HR.out 1
 have f2:=ae_ HR.out 2
 replace HX:=hd_ (bk_ HX.out (show w.heap.size≠w.heap.size+1+1 by omega) (.bool (zneg q.num)) (.slice a2 n2 c2) (.slice b2 m2 d2))
 replace HY:=hd_ (bk_ HY.out (show w.heap.size+1≠w.heap.size+1+1 by omega) (.bool (zneg q.num)) (.slice a2 n2 c2) (.slice b2 m2 d2))
 replace R2:=hd_ (R2.out.stored3 HR.out ((zneg q.num)) a2 n2 c2 (.slice b2 m2 d2))
 replace T2:=hd_ (T2.out.stored3 HR.out ((zneg q.num)) a2 n2 c2 (.slice b2 m2 d2))
 replace HB:=hd_ (as_ HB.out (show w.heap.size≤w.heap.size+1+1 by omega) (.bool (zneg q.num)) (.slice a2 n2 c2) (.slice b2 m2 d2))
 replace HR:=hd_ (be_ HR.out (.bool (zneg q.num)) (.slice a2 n2 c2) (.slice b2 m2 d2))
 go_wp2
 refine bodyPost_ret (results_cell_row Tryz.results43 _ _ (w.heap.size+1+1) 44 #[.bool (zneg q.num),.slice a2 n2 c2,.slice b2 m2 d2] (0,0) _ rfl HR.out Tryz.underlying44 rfl (by kernel_rfl)) rfl ?_
 exact⟨a2,n2,c2,b2,m2,d2,rfl,R2.out,T2.out,HB.out⟩
theorem ti_(na:Bool)(a:OA_)(n cap:Nat)(la:List Nat)(b:OA_)(m cap':Nat)(lb:List Nat)(nb:Bool)(a':OA_)(n' c':Nat)(la':List Nat)(b':OA_)(m' d':Nat)(lb':List Nat)(w:World)(ha:Wd w a n cap la)(hb:Wd w b m cap' lb)(ha':Wd w a' n' c' la')(hb':Wd w b' m' d' lb')(hn:n≤15728640000)(hm:m≤15728640000)(hn':n'≤15728640000)(hm':m'≤15728640000) :
 Calls Tryz.prog 63 #[frV na a n cap b m cap',frV nb a' n' c' b' m' d'] w (en_ (qval na (val la) (val lb) / qval nb (val la') (val lb')) (.bool (decide (qval nb (val la') (val lb')≠0))) w):=by
 have HB:=hd_ (ab_ (ab_ (aa_ w (.cells #[.bool na,.slice a n cap,.slice b m cap'] 44)) (aa_ _ (.cells #[.bool nb,.slice a' n' c',.slice b' m' d'] 44))) (aa_ _ (.cells #[.bool false,.slice none 0 0,.slice none 0 0] 44)))
 have HA:=hd_ (ha.later HB.out)
 have HC:=hd_ (hb.later HB.out)
 have HA':=hd_ (ha'.later HB.out)
 have HC':=hd_ (hb'.later HB.out)
 obtain⟨hx1,hx2,hx3⟩:=eo_ w #[.bool na,.slice a n cap,.slice b m cap'] #[.bool nb,.slice a' n' c',.slice b' m' d'] #[.bool false,.slice none 0 0,.slice none 0 0] 44 44 44
 have HX:=hd_ hx1
 have HY:=hd_ hx2
 have HR:=hd_ hx3
 have ta:=ha.trim_le
 have tb:=hb.trim_le
 have ta':=ha'.trim_le
 have tb':=hb'.trim_le
 clear ha hb ha' hb' hx1 hx2 hx3
 have H0:Hid (sgn (qval nb (val la') (val lb')).num=0→qval na (val la) (val lb) / qval nb (val la') (val lb')=0∧qval nb (val la') (val lb')=0):=hd_ (fun h=>by
  have h1:=fc_qsign_zero.1 h
  exact⟨by rw[h1,Rat.div_def,Rat.inv_zero,Rat.mul_zero],h1⟩)
 have H1:Hid (sgn (qval nb (val la') (val lb')).num≠0→qval nb (val la') (val lb')≠0):=hd_ (fun h e=>h (fc_qsign_zero.2 e))
 have HT:Hid (qval na (val la) (val lb) * qval nb (val lb') (val la')=qval na (val la) (val lb) / qval nb (val la') (val lb')):=hd_ (by rw[l7_ nb (val la') (val lb'),Rat.div_def])
 generalize qval na (val la) (val lb) / qval nb (val la') (val lb')=q at *
 generalize hp:qval nb (val la') (val lb')=p at *
 have HP:=hd_ hp
 clear hp
 go_enter Tryz.func63,Tryz.ntmps63
 unfold frV
 obtain⟨vk0,vk1,vk2,vk3,vk4,vk5,vk6,vk7,vk8⟩:=ct_ HX.out HY.out HR.out
 go_wp2_with fail
 refine (gr_ nb a' n' c' la' b' m' d' lb' _ HA'.out HC'.out (by omega) (by omega)).mono ?_
 rintro e wv1 ⟨rfl,b⟩
 clear vk0 vk1 vk2 vk3 vk4 vk5 vk6 vk7 vk8
 replace HB:=bt_ HB b
 replace HX:=bl_ HX b
 replace HY:=bl_ HY b
 replace HR:=bl_ HR b
 replace HA:=HA.l_ b
 replace HC:=HC.l_ b
 replace HA':=HA'.l_ b
 replace HC':=HC'.l_ b
 clear b
 rw[HP.out]
 generalize sgn p.num=s at *
 by_cases h0:s=0
 ·have hs:(s == 0)=true:=by simp[h0]
  have HQ0:Hid (((0:Int):Rat)=q):=hd_ (by rw[(H0.out h0).1];rfl)
  have HD:Hid (decide (p≠0)=false):=hd_ (decide_eq_false (fun h=>h (H0.out h0).2))
  clear h0 H0 H1 HA HC HA' HC'
  obtain⟨uk0,uk1,uk2,uk3,uk4,uk5,uk6,uk7,uk8⟩:=ct_ HX.out HY.out HR.out
  go_wp2_with fail
  refine (e6_ 0 _ c5_).mono ?_
  rintro e wu1 ⟨a1,n1,c1,b1,m1,d1,rfl,h1,g1,b⟩
  clear uk0 uk1 uk2 uk3 uk4 uk5 uk6 uk7 uk8
  replace HB:=bt_ HB b
  replace HX:=bl_ HX b
  replace HY:=bl_ HY b
  replace HR:=bl_ HR b
  clear b
  rw[HQ0.out] at h1 g1 ⊢
  have R1:=hd_ h1
  have T1:=hd_ g1
  clear h1 g1
  unfold frV
  have q0:=ad_ HR.out 0
  have q1:=ad_ HR.out 1
  have q2:=ad_ HR.out 2
  simp only[List.getElem?_toArray,List.getElem?_cons_zero,List.getElem?_cons_succ] at q0 q1 q2
  have f0:=ae_ HR.out 0
  have f1:=ae_ HR.out 1
  have f2:=ae_ HR.out 2
  replace HX:=hd_ (bk_ HX.out (show w.heap.size≠w.heap.size+1+1 by omega) (.bool (zneg q.num)) (.slice a1 n1 c1) (.slice b1 m1 d1))
  replace HY:=hd_ (bk_ HY.out (show w.heap.size+1≠w.heap.size+1+1 by omega) (.bool (zneg q.num)) (.slice a1 n1 c1) (.slice b1 m1 d1))
  replace R1:=hd_ (R1.out.stored3 HR.out ((zneg q.num)) a1 n1 c1 (.slice b1 m1 d1))
  replace T1:=hd_ (T1.out.stored3 HR.out ((zneg q.num)) a1 n1 c1 (.slice b1 m1 d1))
  replace HB:=hd_ (as_ HB.out (show w.heap.size≤w.heap.size+1+1 by omega) (.bool (zneg q.num)) (.slice a1 n1 c1) (.slice b1 m1 d1))
  replace HR:=hd_ (be_ HR.out (.bool (zneg q.num)) (.slice a1 n1 c1) (.slice b1 m1 d1))
  go_wp2
  refine bodyPost_ret (bo_ Tryz.results63 _ _ (w.heap.size+1+1) 44 #[.bool (zneg q.num),.slice a1 n1 c1,.slice b1 m1 d1] (0,0) _ rfl HR.out Tryz.underlying44 rfl (by kernel_rfl)) rfl ?_
  exact⟨a1,n1,c1,b1,m1,d1,by rw[HD.out];rfl,R1.out,T1.out,HB.out⟩
 ·have hs:(s == 0)=false:=by simp[h0]
  have HD:Hid (decide (p≠0)=true):=hd_ (decide_eq_true (H1.out h0))
  clear h0 H0 H1
  obtain⟨uk0,uk1,uk2,uk3,uk4,uk5,uk6,uk7,uk8⟩:=ct_ HX.out HY.out HR.out
  go_wp2
  clear uk0 uk1 uk2 uk3 uk4 uk5 uk6 uk7 uk8
  replace HB:=bt_ HB (dw_ wv1)
  replace HX:Hid (wv1.drew.heap[w.heap.size]? = _):=hd_ HX.out
  replace HY:Hid (wv1.drew.heap[w.heap.size+1]? = _):=hd_ HY.out
  replace HR:Hid (wv1.drew.heap[w.heap.size+1+1]? = some (.cells #[.bool false,.slice none 0 0,.slice none 0 0] 44 (0,0))):=hd_ HR.out
  replace HA:=HA.l_ (dw_ wv1)
  replace HC:=HC.l_ (dw_ wv1)
  replace HA':=HA'.l_ (dw_ wv1)
  replace HC':=HC'.l_ (dw_ wv1)
  have pSn:=bc_ HX.out HY.out
  go_region_held3 (fun w'=>w'.cell? ⟨w.heap.size,0,none⟩=some (.bool na)∧w'.cell? ⟨w.heap.size,1,none⟩=some (.slice a n cap)∧w'.cell? ⟨w.heap.size,2,none⟩=some (.slice b m cap')∧w'.cell? ⟨w.heap.size+1,0,none⟩=some (.bool nb)∧w'.cell? ⟨w.heap.size+1,1,none⟩=some (.slice a' n' c')∧w'.cell? ⟨w.heap.size+1,2,none⟩=some (.slice b' m' d')) (first | exact pSn | exact pSb _ _ _)
   (first
   | (go_at_call 108;(first
     | (refine (v7_ nb a' n' c' b' m' d' _).mono ?_;rintro e wp1 ⟨rfl,b⟩;replace HB:=bt_ HB b;replace HX:=bl_ HX b;replace HY:=bl_ HY b;replace HR:=bl_ HR b;replace HA:=HA.l_ b;replace HC:=HC.l_ b;replace HA':=HA'.l_ b;replace HC':=HC'.l_ b;unfold frV;clear b;clear pSn;have pSn:=bc_ HX.out HY.out;have pM1:=True.intro)))
   | (go_at_call 43;(first
     | (have pm1:=pM1;refine (to_ na a n cap la b m cap' lb nb b' m' d' lb' a' n' c' la' _ HA.out HC.out HC'.out HA'.out hn hm hm' hn').mono ?_;rintro e wp2 ⟨a1,n1,c1,b1,m1,d1,rfl,h1,g1,b⟩;replace HB:=bt_ HB b;replace HX:=bl_ HX b;replace HY:=bl_ HY b;replace HR:=bl_ HR b;replace HA:=HA.l_ b;replace HC:=HC.l_ b;replace HA':=HA'.l_ b;replace HC':=HC'.l_ b;rw[HT.out] at h1 g1 ⊢;have R1:=hd_ h1;have T1:=hd_ g1;clear h1 g1;obtain⟨r0,r1,r2⟩:=ao_ HR.out;have f0:=ae_ HR.out 0;have f1:=ae_ HR.out 1;have f2:=ae_ HR.out 2;have pSb:=fun u v q=>bc_ (bk_ (g:=w.heap.size+1+1) HX.out (by omega) u v q) (bk_ (g:=w.heap.size+1+1) HY.out (by omega) u v q);unfold frV;clear b;clear pSn;have pSn:=bc_ HX.out HY.out;clear pM1 pm1;have pM2:=True.intro))))
  have HG:=hd_ (be_ HR.out (.bool (zneg q.num)) (.slice a1 n1 c1) (.slice b1 m1 d1))
  have HL:=hd_ (as_ HB.out (show w.heap.size≤w.heap.size+1+1 by omega) (.bool (zneg q.num)) (.slice a1 n1 c1) (.slice b1 m1 d1))
  have HW1:=hd_ (R1.out.stored3 HR.out (zneg q.num) a1 n1 c1 (.slice b1 m1 d1))
  have HW2:=hd_ (T1.out.stored3 HR.out (zneg q.num) a1 n1 c1 (.slice b1 m1 d1))
  go_wp2
  refine bodyPost_ret (bo_ Tryz.results63 _ _ (w.heap.size+1+1) 44 #[.bool (zneg q.num),.slice a1 n1 c1,.slice b1 m1 d1] (0,0) _ rfl HG.out Tryz.underlying44 rfl (by kernel_rfl)) rfl ?_
  exact⟨a1,n1,c1,b1,m1,d1,by rw[HD.out];rfl,HW1.out,HW2.out,HL.out⟩
theorem wa_(x y:Int)(w:World)(hx:f6_ x)(hy:f6_ y):Calls Tryz.prog 48 #[.int .i64 x,.int .i64 y] w (en_ ((x:Rat) / (y:Rat)) (.bool (decide (y≠0))) w):=by
 have lx:=b4_ hx
 have ly:=b4_ hy
 have HX:=hd_ hx
 have HY:=hd_ hy
 have HB:=hd_ (aa_ w (.cells #[.bool false,.slice none 0 0,.slice none 0 0] 44))
 have HR:=hd_ (ai_ w #[.bool false,.slice none 0 0,.slice none 0 0] 44)
 have HD:Hid (decide ((y:Rat)≠0)=decide (y≠0)):=hd_ (decide_eq_decide.2 (by rw[Ne,Rat.intCast_eq_zero_iff]))
 clear hx hy
 generalize hp:(x:Rat)=p at *
 generalize hr:(y:Rat)=r at *
 have HPX:=hd_ hp
 have HRY:=hd_ hr
 clear hp hr
 have HT:Hid (qval (zneg p.num) (val (dg p.num.natAbs)) (val (dg p.den)) / qval (zneg r.num) (val (dg r.num.natAbs)) (val (dg r.den))=p / r):=hd_ (by rw[er_,er_])
 have HE:Hid (decide (qval (zneg r.num) (val (dg r.num.natAbs)) (val (dg r.den))≠0)=decide (y≠0)):=hd_ (by rw[er_];exact HD.out)
 have l1:=a5_ p
 have l2:=a4_ p
 have l3:=a5_ r
 have l4:=a4_ r
 obtain⟨q,hq⟩:∃q,p / r=q:=⟨_,rfl⟩
 rw[hq]
 have HQ:=hd_ hq
 clear hq
 go_enter Tryz.func48,Tryz.ntmps48
 obtain⟨vk0,vk1,vk2⟩:=ao_ HR.out
 go_wp2_with fail
 refine (e6_ x _ HX.out).mono ?_
 rintro e wv1 ⟨a1,n1,c1,b1,m1,d1,rfl,h1,g1,b⟩
 clear vk0 vk1 vk2
 replace HB:=bt_ HB b
 replace HR:=bl_ HR b
 clear b
 rw[HPX.out] at h1 g1 ⊢
 have ln1:=h1.len
 have lm1:=g1.len
 have R1:=hd_ h1
 have T1:=hd_ g1
 clear h1 g1
 unfold frV
 obtain⟨vk0,vk1,vk2⟩:=ao_ HR.out
 go_wp2_with fail
 refine (e6_ y _ HY.out).mono ?_
 rintro e wv2 ⟨a2,n2,c2,b2,m2,d2,rfl,h2,g2,b⟩
 clear vk0 vk1 vk2
 replace HB:=bt_ HB b
 replace HR:=bl_ HR b
 replace R1:=R1.l_ b
 replace T1:=T1.l_ b
 clear b
 rw[HRY.out] at h2 g2 ⊢
 have ln2:=h2.len
 have lm2:=g2.len
 have R2:=hd_ h2
 have T2:=hd_ g2
 clear h2 g2
 unfold frV
 obtain⟨vk0,vk1,vk2⟩:=ao_ HR.out
 go_wp2_with fail
 refine (ti_ _ a1 n1 c1 _ b1 m1 d1 _ _ a2 n2 c2 _ b2 m2 d2 _ _ R1.out T1.out R2.out T2.out (by omega) (by omega) (by omega) (by omega)).mono ?_
 rintro e wv3 ⟨a3,n3,c3,b3,m3,d3,rfl,h3,g3,b⟩
 clear vk0 vk1 vk2
 replace HB:=bt_ HB b
 replace HR:=bl_ HR b
 clear R1
 clear T1
 clear R2
 clear T2
 clear b
 rw[HT.out,HQ.out] at h3 g3
 rw[HT.out,HQ.out,HE.out]
 generalize decide (y≠0)=s at *
 have R3:=hd_ h3
 have T3:=hd_ g3
 clear h3 g3
 unfold frV
 have q0:=ad_ HR.out 0
 have q1:=ad_ HR.out 1
 have q2:=ad_ HR.out 2
 simp only[List.getElem?_toArray,List.getElem?_cons_zero,List.getElem?_cons_succ] at q0 q1 q2
 have f0:=ae_ HR.out 0
 have f1:=ae_ HR.out 1
 have f2:=ae_ HR.out 2
 replace R3:=hd_ (R3.out.stored3 HR.out ((zneg q.num)) a3 n3 c3 (.slice b3 m3 d3))
 replace T3:=hd_ (T3.out.stored3 HR.out ((zneg q.num)) a3 n3 c3 (.slice b3 m3 d3))
 replace HB:=hd_ (as_ HB.out (show w.heap.size≤w.heap.size by omega) (.bool (zneg q.num)) (.slice a3 n3 c3) (.slice b3 m3 d3))
 replace HR:=hd_ (be_ HR.out (.bool (zneg q.num)) (.slice a3 n3 c3) (.slice b3 m3 d3))
 go_wp2
 refine bodyPost_ret (bo_ Tryz.results48 _ _ (w.heap.size) 44 #[.bool (zneg q.num),.slice a3 n3 c3,.slice b3 m3 d3] (0,0) _ rfl HR.out Tryz.underlying44 rfl (by kernel_rfl)) rfl ?_
 exact⟨a3,n3,c3,b3,m3,d3,rfl,R3.out,T3.out,HB.out⟩
end Go.Proofs.YtocebjbjnfammaaGreat
