import Derived.Test.YtocebjbjnfammaaGreatVG14
import Derived.Test.YtocebjbjnfammaaGreatVG2
import Derived.Test.YtocebjbjnfammaaGreatVG3
import Derived.Test.YtocebjbjnfammaaGreatVG5
import Derived.Deep.RegionHeld3
import Derived.BigQuiet
import Derived.Test.YtocebjbjnfammaaGreatVG1
set_option maxRecDepth 4096
set_option maxHeartbeats 16000000
namespace Go.Proofs.YtocebjbjnfammaaGreat
open Go.RowKit
theorem Wd.held_any{w:World}{a:Option Addr}{n cap:Nat}{l:List Nat}(h:Wd w a n cap l):mj_ w (.slice a n cap)=val l:=by
 cases a with
 | none=>obtain⟨_,_,rfl⟩:=h.ofNone;rfl
 | some ad=>
   by_cases hn:n=0
   ·subst hn
    obtain rfl:=List.eq_nil_of_length_eq_zero h.len
    rfl
   ·obtain⟨b,off,e,_⟩:=h.at (by omega)
    simp only[Option.some.injEq] at e
    subst e
    exact h.held
theorem np_{v m:Nat}(h:(dg v).length=m)(hm:m≤2):v < 18446744073709551616:=by
 have h1:=dg_length_pow.1 (show (dg v).length≤2 by omega)
 simpa using h1
theorem hq_{v:Nat}(h:v < 18446744073709551616):in_ v=v∧k8_ v=true:=by
 unfold in_ k8_ two64
 rw[if_pos h,decide_eq_true h]
 exact⟨rfl,rfl⟩
def ne_ (G bound:Nat) (w0:World) (x y:Value) (wr:World):Prop:=
 ∃(a:OA_) (n cap:Nat) (b:OA_) (m cap':Nat) (X Y:Nat),x=.slice a n cap∧y=.slice b m cap'∧Hid (Wd wr a n cap (dg X))∧Hid (Wd wr b m cap' (dg Y))∧n≤bound∧m≤bound∧Hid (Y≤X∧Nat.gcd X Y=G)∧Hid (Below w0.heap.size w0 wr)
theorem ru_(a:OA_)(n cap:Nat)(la:List Nat)(b:OA_)(m cap':Nat)(lb:List Nat)(w:World)(ha:Wd w a n cap la)(hb:Wd w b m cap' lb)(hn:n≤83886080000)(hm:m≤83886080000) :
 Calls Tryz.prog 127 #[.slice a n cap,.slice b m cap'] w (Lst (dg (Nat.gcd (val la) (val lb))) w):=by
 have hla:(dg (val la)).length≤n:=ha.trim_le
 have hlb:(dg (val lb)).length≤m:=hb.trim_le
 have Hb:=hd_ hb
 go_enter Tryz.func127,Tryz.ntmps127
 go_wp2_with fail
 refine (natSaid.norm _ _ _ _ _ ha (by omega)).mono ?_
 rintro e w1 ⟨ax,nx,cx,rfl,hx,hB1⟩
 have Hx:=hd_ hx
 have hnx:nx≤83886080000:=by have h1:=hx.len;omega
 have Hb1:=Hb.l_ hB1
 clear ha hb hx Hb
 go_wp2_with fail
 refine (natSaid.norm _ _ _ _ _ Hb1.out (by omega)).mono ?_
 rintro e w2 ⟨ay,ny,cy,rfl,hy,hB2⟩
 have Hy:=hd_ hy
 have hny:ny≤83886080000:=by have h1:=hy.len;omega
 have Hx2:=Hx.l_ hB2
 have hB12:=ab_ hB1 hB2
 clear hy hla hlb Hb1 Hx hB1 hB2
 generalize val la=X0 at *
 generalize val lb=Y0 at *
 have HvX:Hid (val (dg X0)=X0):=hd_ (a8_ X0)
 have HvY:Hid (val (dg Y0)=Y0):=hd_ (a8_ Y0)
 go_wp2_with fail
 refine (natSaid.cmp _ _ _ _ _ _ _ _ _ Hx2.out Hy.out (by omega) (by omega)).mono ?_
 rintro e w3 ⟨rfl,hB3⟩
 rw[HvX.out,HvY.out]
 have Hx3:=Hx2.l_ hB3
 have Hy3:=Hy.l_ hB3
 have HB3:=hd_ (ab_ hB12 hB3)
 clear Hx2 Hy hB12 hB3 HvX HvY
 obtain⟨G,hG⟩:∃G,G=Nat.gcd X0 Y0:=⟨_,rfl⟩
 have HGe:Hid (Nat.gcd X0 Y0=G):=hd_ hG.symm
 have HS:Hid ((X0 < Y0→X0≤Y0∧Nat.gcd Y0 X0=G)∧(¬X0 < Y0→Y0≤X0∧Nat.gcd X0 Y0=G)):=hd_ ⟨fun h=>⟨by omega,by rw[hG,Nat.gcd_comm]⟩,fun h=>⟨by omega,hG.symm⟩⟩
 clear hG
 by_cases hlt:X0 < Y0
 ·have hc:cmpI X0 Y0 < 0:=by rw[h4_ hlt];omega
  have HSs:=hd_ (HS.out.1 hlt)
  clear hlt HS
  generalize cmpI X0 Y0=c at *
  go_wp2
  go_loopw [0,1] (fun xv yv wr=>ne_ G 83886080000 w xv yv wr) (fun _ yv wr=>mj_ wr yv)
  case atStart=>exact⟨ay,ny,cy,ax,nx,cx,Y0,X0,rfl,rfl,Hy3,Hx3,hny,hnx,HSs,HB3⟩
  case round=>
   clear Hx3 Hy3 hnx hny HSs HB3 hc
   obtain⟨a,n,cap,b,m,cap',X,Y,rfl,rfl,HX,HY,hn,hm,HXY,HB⟩:=hrel
   have HvX:Hid (val (dg X)=X):=hd_ (a8_ X)
   have HvY:Hid (val (dg Y)=Y):=hd_ (a8_ Y)
   by_cases hm2:2 < m
   ·have HmY:=hd_ HY.out.held_any
    rw[HvY.out] at HmY
    have hmn:m≤n:=by rw[←HX.out.len,←HY.out.len];exact az_ HXY.out.1
    obtain⟨k,rfl⟩:∃k,n=k+3:=⟨n - 3,by omega⟩
    have HY0:Hid (Y≠0):=hd_ (fun h=>by have:=HY.out.len;rw[h,cn_] at this;simp at this;omega)
    have HYX:Hid (Y≤X):=hd_ HXY.out.1
    have hm2i:(2:Int) < (m:Int):=by omega
    go_wp2_with fail
    refine (ho_ a k cap b m cap' X Y _ HX.out HY.out (by omega) (by omega) HYX HY0).mono ?_
    rintro e w4 ⟨a4,n4,c4,b4,m4,d4,X4,Y4,rfl,h4,k4,HL,hB4⟩
    have H4:=hd_ h4
    have K4:=hd_ k4
    have hn4:n4≤83886080000:=by have h1:=h4.len;have h2:=az_ HL.out.1;have h3:=HY.out.len;omega
    have hm4:m4≤83886080000:=by have h1:=k4.len;have h2:=az_ (Nat.le_of_lt HL.out.2.1);have h3:=HY.out.len;omega
    have HB4:=hd_ (ab_ HB.out hB4)
    have HmK:=hd_ k4.held_any
    rw[a8_] at HmK
    clear h4 k4 hB4
    go_wp2
    go_roundw
    case rel=>exact⟨a4,n4,c4,b4,m4,d4,X4,Y4,rfl,rfl,H4,K4,hn4,hm4,hd_ ⟨HL.out.2.2.1,HL.out.2.2.2.trans HXY.out.2⟩,HB4⟩
    case measure=>rw[HmK.out,HmY.out];exact HL.out.2.1
   ·have hm2i:¬(2:Int) < (m:Int):=by omega
    by_cases hm0:m=0
    ·subst hm0
     have HGX:Hid (X=G):=hd_ (by rw[←HXY.out.2,dg_nil_iff.1 HY.out.len,Nat.gcd_zero_right])
     go_wp2
     go_ret
     exact⟨a,n,cap,rfl,by rw[HGe.out,←HGX.out];exact HX.out,HB.out⟩
    ·have hmb:((m:Int) == 0)=false:=by simp;omega
     have HY0:Hid (Y≠0):=hd_ (fun h=>by have:=HY.out.len;rw[h,cn_] at this;simp at this;omega)
     have hYs:Y < 18446744073709551616:=np_ HY.out.len (by omega)
     have hRs:X % Y < 18446744073709551616:=Nat.lt_trans (Nat.mod_lt _ (Nat.pos_of_ne_zero HY0.out)) hYs
     have HGY:Hid (Nat.gcd Y (X % Y)=G):=hd_ ((fo_ HY0.out).1.trans HXY.out.2)
     go_wp2_with fail
     refine (iu_ _ _ _ _ _ _ _ _ _ HX.out HY.out (by omega) (by omega) (by rw[HvY.out];exact HY0)).mono ?_
     rintro e w4 ⟨a4,n4,c4,b4,m4,d4,rfl,h4,k4,hB4⟩
     rw[HvX.out,HvY.out] at k4
     have K4:=hd_ k4
     have hm4:m4≤83886080000:=by have h1:=k4.len;have h2:=az_ (Nat.le_of_lt (Nat.mod_lt X (Nat.pos_of_ne_zero HY0.out)));have h3:=HY.out.len;omega
     have HY4:=HY.l_ hB4
     have hB14:=ab_ HB.out hB4
     obtain⟨R,hR⟩:∃R,R=X % Y:=⟨_,rfl⟩
     rw[←hR] at hRs HGY K4
     have HvR:Hid (val (dg R)=R):=hd_ (a8_ R)
     have HsY:=hd_ (hq_ hYs)
     have HsR:=hd_ (hq_ hRs)
     clear h4 k4 hB4 hR HX HY HB HXY HY0
     go_wp2_with fail
     refine (natSaid.small _ _ _ _ _ HY4.out (by omega)).mono ?_
     rintro e w5 ⟨rfl,hB5⟩
     rw[HvY.out,HsY.out.1,HsY.out.2]
     have K5:=K4.l_ hB5
     have hB15:=ab_ hB14 hB5
     clear K4 HY4 hB14 hB5 HvX HvY HsY
     go_wp2_with fail
     refine (natSaid.small _ _ _ _ _ K5.out (by omega)).mono ?_
     rintro e w6 ⟨rfl,hB6⟩
     rw[HvR.out,HsR.out.1,HsR.out.2]
     have HB16:=hd_ (ab_ hB15 hB6)
     clear K5 hB15 hB6 HvR HsR
     go_wp2
     go_loopw [8,10] (fun xv yv wr=>∃x y:Nat,xv=.int .u64 (x:Int)∧yv=.int .u64 (y:Int)∧x < 18446744073709551616∧y < 18446744073709551616∧Hid (Nat.gcd x y=G)∧Hid (Below w.heap.size w wr)) (fun _ yv _=>(intOf yv).toNat)
     case atStart=>exact⟨Y,R,rfl,rfl,hYs,hRs,HGY,HB16⟩
     case round=>
      clear HGY HB16 hYs hRs
      obtain⟨x,y,rfl,rfl,hxs,hys,HG,HBr⟩:=hrel
      by_cases hy0:0 < y
      ·have hyi:(0:Int) < (y:Int):=by omega
       obtain⟨z,hz⟩:∃z:Nat,(x:Int) % (y:Int)=(z:Int):=⟨x % y,by rw[Int.natCast_emod]⟩
       have hze:x % y=z:=by have:=Int.natCast_emod x y;omega
       have Hz:=hd_ (fo_ (X:=x) (Y:=y) (by omega))
       rw[hze] at Hz
       have hzs:z < y:=Hz.out.2
       clear hze
       go_wp2
       go_quiet (fail)
       rw[hz]
       have HBd:=hd_ (below_drewN HBr.out nq)
       go_wp2
       go_roundw
       case rel=>exact⟨y,z,rfl,rfl,hys,by omega,hd_ (Hz.out.1.trans HG.out),HBd⟩
       case measure=>simp[intOf];omega
      ·obtain rfl:y=0:=by omega
       have HGx:Hid (x=G):=hd_ (by rw[←HG.out,Nat.gcd_zero_right])
       go_wp2_with fail
       refine (natSaid.of x _ (by omega)).mono ?_
       rintro e w7 ⟨a7,n7,c7,rfl,h7,hB7⟩
       rw[HGx.out] at h7
       have H7:=hd_ h7
       clear h7
       go_wp2
       go_ret
       exact⟨a7,n7,c7,rfl,by rw[HGe.out];exact H7.out,ab_ HBr.out hB7⟩
 ·have hc:¬cmpI X0 Y0 < 0:=by unfold cmpI;split <;> (try split) <;> omega
  have HSs:=hd_ (HS.out.2 hlt)
  clear hlt HS
  generalize cmpI X0 Y0=c at *
  go_wp2
  go_loopw [0,1] (fun xv yv wr=>ne_ G 83886080000 w xv yv wr) (fun _ yv wr=>mj_ wr yv)
  case atStart=>exact⟨ax,nx,cx,ay,ny,cy,X0,Y0,rfl,rfl,Hx3,Hy3,hnx,hny,HSs,HB3⟩
  case round=>
   clear Hx3 Hy3 hnx hny HSs HB3 hc
   obtain⟨a,n,cap,b,m,cap',X,Y,rfl,rfl,HX,HY,hn,hm,HXY,HB⟩:=hrel
   have HvX:Hid (val (dg X)=X):=hd_ (a8_ X)
   have HvY:Hid (val (dg Y)=Y):=hd_ (a8_ Y)
   by_cases hm2:2 < m
   ·have HmY:=hd_ HY.out.held_any
    rw[HvY.out] at HmY
    have hmn:m≤n:=by rw[←HX.out.len,←HY.out.len];exact az_ HXY.out.1
    obtain⟨k,rfl⟩:∃k,n=k+3:=⟨n - 3,by omega⟩
    have HY0:Hid (Y≠0):=hd_ (fun h=>by have:=HY.out.len;rw[h,cn_] at this;simp at this;omega)
    have HYX:Hid (Y≤X):=hd_ HXY.out.1
    have hm2i:(2:Int) < (m:Int):=by omega
    go_wp2_with fail
    refine (ho_ a k cap b m cap' X Y _ HX.out HY.out (by omega) (by omega) HYX HY0).mono ?_
    rintro e w4 ⟨a4,n4,c4,b4,m4,d4,X4,Y4,rfl,h4,k4,HL,hB4⟩
    have H4:=hd_ h4
    have K4:=hd_ k4
    have hn4:n4≤83886080000:=by have h1:=h4.len;have h2:=az_ HL.out.1;have h3:=HY.out.len;omega
    have hm4:m4≤83886080000:=by have h1:=k4.len;have h2:=az_ (Nat.le_of_lt HL.out.2.1);have h3:=HY.out.len;omega
    have HB4:=hd_ (ab_ HB.out hB4)
    have HmK:=hd_ k4.held_any
    rw[a8_] at HmK
    clear h4 k4 hB4
    go_wp2
    go_roundw
    case rel=>exact⟨a4,n4,c4,b4,m4,d4,X4,Y4,rfl,rfl,H4,K4,hn4,hm4,hd_ ⟨HL.out.2.2.1,HL.out.2.2.2.trans HXY.out.2⟩,HB4⟩
    case measure=>rw[HmK.out,HmY.out];exact HL.out.2.1
   ·have hm2i:¬(2:Int) < (m:Int):=by omega
    by_cases hm0:m=0
    ·subst hm0
     have HGX:Hid (X=G):=hd_ (by rw[←HXY.out.2,dg_nil_iff.1 HY.out.len,Nat.gcd_zero_right])
     go_wp2
     go_ret
     exact⟨a,n,cap,rfl,by rw[HGe.out,←HGX.out];exact HX.out,HB.out⟩
    ·have hmb:((m:Int) == 0)=false:=by simp;omega
     have HY0:Hid (Y≠0):=hd_ (fun h=>by have:=HY.out.len;rw[h,cn_] at this;simp at this;omega)
     have hYs:Y < 18446744073709551616:=np_ HY.out.len (by omega)
     have hRs:X % Y < 18446744073709551616:=Nat.lt_trans (Nat.mod_lt _ (Nat.pos_of_ne_zero HY0.out)) hYs
     have HGY:Hid (Nat.gcd Y (X % Y)=G):=hd_ ((fo_ HY0.out).1.trans HXY.out.2)
     go_wp2_with fail
     refine (iu_ _ _ _ _ _ _ _ _ _ HX.out HY.out (by omega) (by omega) (by rw[HvY.out];exact HY0)).mono ?_
     rintro e w4 ⟨a4,n4,c4,b4,m4,d4,rfl,h4,k4,hB4⟩
     rw[HvX.out,HvY.out] at k4
     have K4:=hd_ k4
     have hm4:m4≤83886080000:=by have h1:=k4.len;have h2:=az_ (Nat.le_of_lt (Nat.mod_lt X (Nat.pos_of_ne_zero HY0.out)));have h3:=HY.out.len;omega
     have HY4:=HY.l_ hB4
     have hB14:=ab_ HB.out hB4
     obtain⟨R,hR⟩:∃R,R=X % Y:=⟨_,rfl⟩
     rw[←hR] at hRs HGY K4
     have HvR:Hid (val (dg R)=R):=hd_ (a8_ R)
     have HsY:=hd_ (hq_ hYs)
     have HsR:=hd_ (hq_ hRs)
     clear h4 k4 hB4 hR HX HY HB HXY HY0
     go_wp2_with fail
     refine (natSaid.small _ _ _ _ _ HY4.out (by omega)).mono ?_
     rintro e w5 ⟨rfl,hB5⟩
     rw[HvY.out,HsY.out.1,HsY.out.2]
     have K5:=K4.l_ hB5
     have hB15:=ab_ hB14 hB5
     clear K4 HY4 hB14 hB5 HvX HvY HsY
     go_wp2_with fail
     refine (natSaid.small _ _ _ _ _ K5.out (by omega)).mono ?_
     rintro e w6 ⟨rfl,hB6⟩
     rw[HvR.out,HsR.out.1,HsR.out.2]
     have HB16:=hd_ (ab_ hB15 hB6)
     clear K5 hB15 hB6 HvR HsR
     go_wp2
     go_loopw [8,10] (fun xv yv wr=>∃x y:Nat,xv=.int .u64 (x:Int)∧yv=.int .u64 (y:Int)∧x < 18446744073709551616∧y < 18446744073709551616∧Hid (Nat.gcd x y=G)∧Hid (Below w.heap.size w wr)) (fun _ yv _=>(intOf yv).toNat)
     case atStart=>exact⟨Y,R,rfl,rfl,hYs,hRs,HGY,HB16⟩
     case round=>
      clear HGY HB16 hYs hRs
      obtain⟨x,y,rfl,rfl,hxs,hys,HG,HBr⟩:=hrel
      by_cases hy0:0 < y
      ·have hyi:(0:Int) < (y:Int):=by omega
       obtain⟨z,hz⟩:∃z:Nat,(x:Int) % (y:Int)=(z:Int):=⟨x % y,by rw[Int.natCast_emod]⟩
       have hze:x % y=z:=by have:=Int.natCast_emod x y;omega
       have Hz:=hd_ (fo_ (X:=x) (Y:=y) (by omega))
       rw[hze] at Hz
       have hzs:z < y:=Hz.out.2
       clear hze
       go_wp2
       go_quiet (fail)
       rw[hz]
       have HBd:=hd_ (below_drewN HBr.out nq)
       go_wp2
       go_roundw
       case rel=>exact⟨y,z,rfl,rfl,hys,by omega,hd_ (Hz.out.1.trans HG.out),HBd⟩
       case measure=>simp[intOf];omega
      ·obtain rfl:y=0:=by omega
       have HGx:Hid (x=G):=hd_ (by rw[←HG.out,Nat.gcd_zero_right])
       go_wp2_with fail
       refine (natSaid.of x _ (by omega)).mono ?_
       rintro e w7 ⟨a7,n7,c7,rfl,h7,hB7⟩
       rw[HGx.out] at h7
       have H7:=hd_ h7
       clear h7
       go_wp2
       go_ret
       exact⟨a7,n7,c7,rfl,by rw[HGe.out];exact H7.out,ab_ HBr.out hB7⟩
theorem mi_(x y:Nat):(dg (Nat.gcd x y)).length≤(dg x).length+(dg y).length:=by
 by_cases h:x=0
 ·rw[h,Nat.gcd_zero_left];omega
 ·have:=az_ (Nat.le_of_dvd (Nat.pos_of_ne_zero h) (Nat.gcd_dvd_left x y));omega
theorem h6_{A B:Nat}:A % Nat.gcd A B=0:=Nat.mod_eq_zero_of_dvd (Nat.gcd_dvd_left A B)
theorem hg_{A B:Nat}:B % Nat.gcd A B=0:=Nat.mod_eq_zero_of_dvd (Nat.gcd_dvd_right A B)
theorem lt_{v x:Nat}(h:v % x=0):jr_ v x=dg (v / x):=if_pos h
theorem hn_(a:OA_)(n cap:Nat)(la:List Nat)(b:OA_)(m cap':Nat)(lb:List Nat)(w:World)(ha:Wd w a n cap la)(hb:Wd w b m cap' lb)(hn:n≤41943040000)(hm:m≤41943040000) :
 Calls Tryz.prog 87 #[.slice a n cap,.slice b m cap'] w (Pair2 (dg (val la / Nat.gcd (val la) (val lb))) (dg (val lb / Nat.gcd (val la) (val lb))) w):=by
 have hgl:=mi_ (val la) (val lb)
 have hla:(dg (val la)).length≤n:=ha.trim_le
 have hlb:(dg (val lb)).length≤m:=hb.trim_le
 have Ha:=hd_ ha
 have Hb:=hd_ hb
 clear ha hb
 go_enter Tryz.func87,Tryz.ntmps87
 go_wp2_with fail
 refine (ru_ _ _ _ _ _ _ _ _ _ Ha.out Hb.out (by omega) (by omega)).mono ?_
 rintro e w1 ⟨a1,n1,c1,rfl,h1,hB1⟩
 have H1:=hd_ h1
 have hn1:n1≤83886080000:=by have:=h1.len;omega
 have Ha1:=Ha.l_ hB1
 have Hb1:=Hb.l_ hB1
 clear h1 Ha Hb
 by_cases h0:Nat.gcd (val la) (val lb)=0
 ·have HL:Hid (dg (val la / Nat.gcd (val la) (val lb))=[]∧dg (val lb / Nat.gcd (val la) (val lb))=[]):=hd_ (by rw[h0,Nat.div_zero,Nat.div_zero,cn_];exact⟨rfl,rfl⟩)
  go_wp2_with fail
  refine (f2_ _ _ _ _ _ _ _ _ H1.out (by omega) (hd_ (by rw[a8_];exact h0))).mono ?_
  rintro e w2 ⟨a2,n2,c2,rfl,h2,hB2⟩
  have H2:=hd_ h2
  have H12:=H1.l_ hB2
  clear h2
  go_wp2_with fail
  refine (f2_ _ _ _ _ _ _ _ _ H12.out (by omega) (hd_ (by rw[a8_];exact h0))).mono ?_
  rintro e w3 ⟨a3,n3,c3,rfl,h3,hB3⟩
  have H3:=hd_ h3
  have H23:=H2.l_ hB3
  clear h3
  go_wp2
  go_ret2
  exact⟨a2,n2,c2,a3,n3,c3,rfl,by rw[HL.out.1];exact H23.out,by rw[HL.out.2];exact H3.out,ab_ hB1 (ab_ hB2 hB3)⟩
 ·have HL:Hid (jr_ (val la) (val (dg (Nat.gcd (val la) (val lb))))=dg (val la / Nat.gcd (val la) (val lb))):=hd_ (by rw[a8_];exact lt_ h6_)
  have HR:Hid (jr_ (val lb) (val (dg (Nat.gcd (val la) (val lb))))=dg (val lb / Nat.gcd (val la) (val lb))):=hd_ (by rw[a8_];exact lt_ hg_)
  go_wp2_with fail
  refine (li_ _ _ _ _ _ _ _ _ _ Ha1.out H1.out (by omega) (by omega) (hd_ (by rw[a8_];exact h0))).mono ?_
  rintro e w2 ⟨a2,n2,c2,rfl,h2,hB2⟩
  rw[HL.out] at h2
  have H2:=hd_ h2
  have H12:=H1.l_ hB2
  have Hb2:=Hb1.l_ hB2
  clear h2
  go_wp2_with fail
  refine (li_ _ _ _ _ _ _ _ _ _ Hb2.out H12.out (by omega) (by omega) (hd_ (by rw[a8_];exact h0))).mono ?_
  rintro e w3 ⟨a3,n3,c3,rfl,h3,hB3⟩
  rw[HR.out] at h3
  have H3:=hd_ h3
  have H23:=H2.l_ hB3
  clear h3
  go_wp2
  go_ret2
  exact⟨a2,n2,c2,a3,n3,c3,rfl,H23.out,H3.out,ab_ hB1 (ab_ hB2 hB3)⟩
theorem o5_(neg:Bool)(a:OA_)(n cap:Nat)(b:OA_)(m cap':Nat)(w:World) :
 Calls Tryz.prog 91 #[frV neg a n cap b m cap'] w (bg_ (frV (!neg) a n cap b m cap') w):=by
 have HG:Hid (((w.alloc (.cells #[.bool (!neg),.slice a n cap,.slice b m cap'] 44)).alloc (.cells #[.bool (!neg),.slice a n cap,.slice b m cap'] 44)).heap[w.heap.size+1]? = some (.cells #[.bool (!neg),.slice a n cap,.slice b m cap'] 44 (0,0))):=hd_ (dx_ w ((w.alloc (.cells #[.bool (!neg),.slice a n cap,.slice b m cap'] 44)).alloc (.cells #[.bool (!neg),.slice a n cap,.slice b m cap'] 44)) _ _ _ _ (Below.refl _ _)).2
 have HB:=hd_ (ab_ (aa_ w (.cells #[.bool (!neg),.slice a n cap,.slice b m cap'] 44)) (aa_ _ (.cells #[.bool (!neg),.slice a n cap,.slice b m cap'] 44)))
 go_enter Tryz.func91,Tryz.ntmps91
 unfold frV
 go_wp2
 refine bodyPost_ret (results_cell_row Tryz.results91 _ _ (w.heap.size+1) 44 #[.bool (!neg),.slice a n cap,.slice b m cap'] (0,0) _ rfl HG.out Tryz.underlying44 rfl (by kernel_rfl)) rfl ?_
 exact⟨rfl,HB.out⟩
theorem qz_(neg:Bool)(a:OA_)(n cap:Nat)(b:OA_)(m cap':Nat)(w:World) :
 Calls Tryz.prog 108 #[frV neg a n cap b m cap'] w (bg_ (frV neg b m cap' a n cap) w):=by
 have HG:Hid (((w.alloc (.cells #[.bool neg,.slice a n cap,.slice b m cap'] 44)).alloc (.cells #[.bool neg,.slice b m cap',.slice a n cap] 44)).heap[w.heap.size+1]? = some (.cells #[.bool neg,.slice b m cap',.slice a n cap] 44 (0,0))):=hd_ (dx_ w ((w.alloc (.cells #[.bool neg,.slice a n cap,.slice b m cap'] 44)).alloc (.cells #[.bool neg,.slice b m cap',.slice a n cap] 44)) _ _ _ _ (Below.refl _ _)).2
 have HB:=hd_ (ab_ (aa_ w (.cells #[.bool neg,.slice a n cap,.slice b m cap'] 44)) (aa_ _ (.cells #[.bool neg,.slice b m cap',.slice a n cap] 44)))
 go_enter Tryz.func108,Tryz.ntmps108
 unfold frV
 go_wp2
 refine bodyPost_ret (results_cell_row Tryz.results108 _ _ (w.heap.size+1) 44 #[.bool neg,.slice b m cap',.slice a n cap] (0,0) _ rfl HG.out Tryz.underlying44 rfl (by kernel_rfl)) rfl ?_
 exact⟨rfl,HB.out⟩
theorem gh_(neg:Bool)(a:OA_)(n cap:Nat)(la:List Nat)(b:OA_)(m cap':Nat)(lb:List Nat)(w:World)(ha:Wd w a n cap la)(hb:Wd w b m cap' lb)(hn:n≤104857600000)(hm:m≤104857600000) :
 Calls Tryz.prog 89 #[whV neg a n cap,.slice b m cap'] w (LstZ (zval neg (val la) * (val lb:Int)) w):=by
 have HB:=hd_ (ab_ (aa_ w (.cells #[.bool neg,.slice a n cap] 42)) (aa_ _ (.cells #[.bool false,.slice none 0 0] 42)))
 have HA:=hd_ (ha.later HB.out)
 have HC:=hd_ (hb.later HB.out)
 obtain⟨hx1,hx2⟩:=dx_ w ((w.alloc (.cells #[.bool neg,.slice a n cap] 42)).alloc (.cells #[.bool false,.slice none 0 0] 42)) #[.bool neg,.slice a n cap] #[.bool false,.slice none 0 0] 42 42 (Below.refl _ _)
 have HX:=hd_ hx1
 have HR:=hd_ hx2
 clear hx1 hx2 ha hb
 obtain⟨z,hz⟩:∃z,zval neg (val la) * (val lb:Int)=z:=⟨_,rfl⟩
 rw[hz]
 have HZ:=hd_ hz
 clear hz
 go_enter Tryz.func89,Tryz.ntmps89
 unfold whV
 obtain⟨vk0,vk1,vk2,vk3⟩:=ay_ HX.out HR.out
 go_wp2_with fail
 refine (ni_ neg a n cap la false b m cap' lb _ HA.out HC.out hn hm).mono ?_
 rintro e wv1 ⟨a1,n1,c1,rfl,h1,b⟩
 clear vk0 vk1 vk2 vk3
 replace HB:=bt_ HB b
 replace HX:=bl_ HX b
 replace HR:=bl_ HR b
 clear HA
 clear HC
 clear b
 rw[lo_,HZ.out] at h1 ⊢
 have R1:=hd_ h1
 clear h1
 unfold whV
 obtain⟨r0,r1⟩:=ek_ HR.out
 have f0:=af_ HR.out 0
 have f1:=af_ HR.out 1
 have HG:=hd_ (bk_ HR.out (.bool (zneg z)) (.slice a1 n1 c1))
 have HF:=hd_ (R1.out.stored2 HR.out (zneg z) (.slice a1 n1 c1))
 have HL:=hd_ (a0_ HB.out (show w.heap.size≤w.heap.size+1 by omega) (.bool (zneg z)) (.slice a1 n1 c1))
 go_wp2
 refine bodyPost_ret (results_cell_row Tryz.results89 _ _ (w.heap.size+1) 42 #[.bool (zneg z),.slice a1 n1 c1] (0,0) _ rfl HG.out Tryz.underlying42 rfl (by kernel_rfl)) rfl ?_
 exact⟨a1,n1,c1,rfl,HF.out,HL.out⟩
theorem eq_(x:Int)(w:World)(hx:ht_ x):Calls Tryz.prog 47 #[.int .i64 x] w (LstQ (x:Rat) w):=by
 have HX:=hd_ hx
 have HB:=hd_ (aa_ w (.cells #[.bool false,.slice none 0 0,.slice none 0 0] 44))
 have HR:=hd_ (aj_ w #[.bool false,.slice none 0 0,.slice none 0 0] 44)
 have HO:∀w':World,Calls Tryz.prog 97 #[.int .u64 1] w' (Lst (dg 1) w'):=fun w'=>natSaid.of 1 w' (by omega)
 have HN:Hid (x=(x:Rat).num):=hd_ (Rat.num_intCast x).symm
 have HD:Hid (1=(x:Rat).den):=hd_ (Rat.den_intCast x).symm
 clear hx
 generalize (x:Rat)=q at *
 go_enter Tryz.func47,Tryz.ntmps47
 obtain⟨vk0,vk1,vk2⟩:=as_ HR.out
 go_wp2_with fail
 refine (whole_of x _ HX.out).mono ?_
 rintro e wv1 ⟨a1,n1,c1,rfl,h1,b⟩
 clear vk0 vk1 vk2
 replace HB:=bt_ HB b
 replace HR:=bl_ HR b
 clear b
 have R1:=hd_ h1
 clear h1
 unfold whV
 obtain⟨vk0,vk1,vk2⟩:=as_ HR.out
 go_wp2_with fail
 refine (HO _).mono ?_
 rintro e wv2 ⟨b1,m1,d1,rfl,g1,b⟩
 clear vk0 vk1 vk2
 replace HB:=bt_ HB b
 replace HR:=bl_ HR b
 replace R1:=R1.l_ b
 clear b
 have T1:=hd_ g1
 clear g1
 generalize hz:zneg x=s at *
 have HS:=hd_ hz
 clear hz
 have q0:=ad_ HR.out 0
 have q1:=ad_ HR.out 1
 have q2:=ad_ HR.out 2
 simp only[List.getElem?_toArray,List.getElem?_cons_zero,List.getElem?_cons_succ] at q0 q1 q2
 have f0:=af_ HR.out 0
 have f1:=af_ HR.out 1
 have f2:=af_ HR.out 2
 replace R1:=hd_ (R1.out.stored3 HR.out (s) a1 n1 c1 (.slice b1 m1 d1))
 replace T1:=hd_ (T1.out.stored3 HR.out (s) a1 n1 c1 (.slice b1 m1 d1))
 replace HB:=hd_ (aw_ HB.out (show w.heap.size≤w.heap.size by omega) (.bool s) (.slice a1 n1 c1) (.slice b1 m1 d1))
 replace HR:=hd_ (bm_ HR.out (.bool s) (.slice a1 n1 c1) (.slice b1 m1 d1))
 go_wp2
 refine bodyPost_ret (results_cell_row Tryz.results47 _ _ (w.heap.size) 44 #[.bool s,.slice a1 n1 c1,.slice b1 m1 d1] (0,0) _ rfl HR.out Tryz.underlying44 rfl (by kernel_rfl)) rfl ?_
 refine ⟨a1,n1,c1,b1,m1,d1,?_,?_,?_,HB.out⟩
 ·rw[←HN.out,HS.out];rfl
 ·rw[←HN.out];exact R1.out
 ·rw[←HD.out];exact T1.out
def LstR (z:Int) (v:Nat) (w:World) (e:Ending) (w':World):Prop:=
 ∃(a:OA_) (n cap:Nat) (b:OA_) (m cap':Nat),e=.returned (frV (zneg z) a n cap b m cap')∧Wd w' a n cap (dg z.natAbs)∧Wd w' b m cap' (dg v)∧Below w.heap.size w w'
theorem e7_(neg:Bool)(a:OA_)(n cap:Nat)(la:List Nat)(b:OA_)(m cap':Nat)(lb:List Nat)(w:World)(ha:Wd w a n cap la)(hb:Wd w b m cap' lb)(hn:n≤104857600000)(hm:m≤104857600000) :
 Calls Tryz.prog 44 #[frV neg a n cap b m cap'] w (bg_ (.int .i64 (sgn (qval neg (val la) (val lb)).num)) w):=by
 have HB:=hd_ (aa_ w (.cells #[.bool neg,.slice a n cap,.slice b m cap'] 44))
 have HA:=hd_ (ha.later HB.out)
 have HC:=hd_ (hb.later HB.out)
 have HX:=hd_ (aj_ w #[.bool neg,.slice a n cap,.slice b m cap'] 44)
 clear ha hb
 have HZ0:Hid (val lb=0→sgn (qval neg (val la) (val lb)).num=0):=hd_ (fun h=>by rw[d5_ neg (.inl h)];rfl)
 have HZ1:Hid (val lb≠0→sgn (qval neg (val la) (val lb)).num=sgn (zval neg (val la))):=hd_ (fun h=>fc_qsign h)
 generalize (qval neg (val la) (val lb)).num=y at *
 go_enter Tryz.func44,Tryz.ntmps44
 unfold frV
 obtain⟨vk0,vk1,vk2⟩:=as_ HX.out
 go_wp2_with fail
 refine (natSaid.zero b m cap' lb _ HC.out (by omega)).mono ?_
 rintro e wv1 ⟨rfl,b⟩
 clear vk0 vk1 vk2
 replace HB:=bt_ HB b
 replace HX:=bl_ HX b
 replace HA:=HA.l_ b
 replace HC:=HC.l_ b
 clear b
 by_cases h0:val lb=0
 ·have HS:=hd_ (HZ0.out h0)
  rw[decide_eq_true h0]
  clear h0 HZ0 HZ1
  go_wp2
  go_ret
  exact⟨by rw[HS.out];rfl,HB.out⟩
 ·have HS:=hd_ (HZ1.out h0)
  rw[decide_eq_false h0]
  clear h0 HZ0 HZ1
  obtain⟨k0,k1,k2⟩:=as_ HX.out
  go_wp2_with fail
  refine (h0_ neg a n cap la _ HA.out hn).mono ?_
  rintro e w2 ⟨rfl,b⟩
  go_wp2
  go_ret
  exact⟨by rw[HS.out];rfl,ab_ HB.out b⟩
theorem m9_(na:Bool)(a:OA_)(n cap:Nat)(la:List Nat)(b:OA_)(m cap':Nat)(lb:List Nat)(nb:Bool)(a':OA_)(n' c':Nat)(la':List Nat)(b':OA_)(m' d':Nat)(lb':List Nat)(w:World)(ha:Wd w a n cap la)(hb:Wd w b m cap' lb)(ha':Wd w a' n' c' la')(hb':Wd w b' m' d' lb')(hn:n≤104857600000)(hm:m≤104857600000)(hn':n'≤104857600000)(hm':m'≤104857600000) :
 Calls Tryz.prog 92 #[frV na a n cap b m cap',frV nb a' n' c' b' m' d'] w (LstR (zval na (val la) * zval nb (val la')) (val lb * val lb') w):=by
 have HB:=hd_ (ab_ (ab_ (aa_ w (.cells #[.bool na,.slice a n cap,.slice b m cap'] 44)) (aa_ _ (.cells #[.bool nb,.slice a' n' c',.slice b' m' d'] 44))) (aa_ _ (.cells #[.bool false,.slice none 0 0,.slice none 0 0] 44)))
 have HA:=hd_ (ha.later HB.out)
 have HC:=hd_ (hb.later HB.out)
 have HA':=hd_ (ha'.later HB.out)
 have HC':=hd_ (hb'.later HB.out)
 obtain⟨hx1,hx2,hx3⟩:=e9_ w #[.bool na,.slice a n cap,.slice b m cap'] #[.bool nb,.slice a' n' c',.slice b' m' d'] #[.bool false,.slice none 0 0,.slice none 0 0] 44 44 44
 have HX:=hd_ hx1
 have HY:=hd_ hx2
 have HR:=hd_ hx3
 have ta:=ha.trim_le
 have tb:=hb.trim_le
 have ta':=ha'.trim_le
 have tb':=hb'.trim_le
 clear ha hb ha' hb' hx1 hx2 hx3
 obtain⟨z,hz⟩:∃z,zval na (val la) * zval nb (val la')=z:=⟨_,rfl⟩
 rw[hz]
 have HZ:=hd_ hz
 clear hz
 go_enter Tryz.func92,Tryz.ntmps92
 unfold frV
 go_wp2
 generalize (((w.alloc (.cells #[.bool na,.slice a n cap,.slice b m cap'] 44)).alloc (.cells #[.bool nb,.slice a' n' c',.slice b' m' d'] 44)).alloc (.cells #[.bool false,.slice none 0 0,.slice none 0 0] 44))=W at *
 replace HB:=bt_ HB (dw_ W)
 replace HX:Hid (W.drew.heap[w.heap.size]? = _):=hd_ HX.out
 replace HY:Hid (W.drew.heap[w.heap.size+1]? = _):=hd_ HY.out
 replace HR:Hid (W.drew.heap[w.heap.size+1+1]? = some (.cells #[.bool false,.slice none 0 0,.slice none 0 0] 44 (0,0))):=hd_ HR.out
 replace HA:=HA.l_ (dw_ W)
 replace HC:=HC.l_ (dw_ W)
 replace HA':=HA'.l_ (dw_ W)
 replace HC':=HC'.l_ (dw_ W)
 have pSn:=a7_ HX.out HY.out
 go_region_held3 (fun w'=>w'.cell? ⟨w.heap.size,0,none⟩=some (.bool na)∧w'.cell? ⟨w.heap.size,1,none⟩=some (.slice a n cap)∧w'.cell? ⟨w.heap.size,2,none⟩=some (.slice b m cap')∧w'.cell? ⟨w.heap.size+1,0,none⟩=some (.bool nb)∧w'.cell? ⟨w.heap.size+1,1,none⟩=some (.slice a' n' c')∧w'.cell? ⟨w.heap.size+1,2,none⟩=some (.slice b' m' d')) (first | exact pSn | exact pSb _ _ _)
  (first
  | (go_at_call 132;(first
    | (refine (ni_ na a n cap la nb a' n' c' la' _ HA.out HA'.out (by omega) (by omega)).mono ?_;rintro e wp1 ⟨a1,n1,c1,rfl,h1,b⟩;replace HB:=bt_ HB b;replace HX:=bl_ HX b;replace HY:=bl_ HY b;replace HR:=bl_ HR b;replace HA:=HA.l_ b;replace HC:=HC.l_ b;replace HA':=HA'.l_ b;replace HC':=HC'.l_ b;rw[HZ.out] at h1 ⊢;have R1:=hd_ h1;clear h1;unfold whV;clear b;clear pSn;have pSn:=a7_ HX.out HY.out;have pM1:=True.intro)))
  | (go_at_call 90;(first
    | (have pm1:=pM1;refine (l2_ b m cap' lb b' m' d' lb' _ HC.out HC'.out (by omega) (by omega)).mono ?_;rintro e wp2 ⟨b1,m1,d1,rfl,g1,b⟩;replace HB:=bt_ HB b;replace HX:=bl_ HX b;replace HY:=bl_ HY b;replace HR:=bl_ HR b;replace HA:=HA.l_ b;replace HC:=HC.l_ b;replace HA':=HA'.l_ b;replace HC':=HC'.l_ b;replace R1:=R1.l_ b;have T1:=hd_ g1;clear g1;obtain⟨r0,r1,r2⟩:=as_ HR.out;have f0:=af_ HR.out 0;have f1:=af_ HR.out 1;have f2:=af_ HR.out 2;have pSb:=fun u v q=>a7_ (bv_ (g:=w.heap.size+1+1) HX.out (by omega) u v q) (bv_ (g:=w.heap.size+1+1) HY.out (by omega) u v q);clear b;clear pSn;have pSn:=a7_ HX.out HY.out;clear pM1 pm1;have pM2:=True.intro))))
 have HG:=hd_ (bm_ HR.out (.bool (zneg z)) (.slice a1 n1 c1) (.slice b1 m1 d1))
 have HL:=hd_ (aw_ HB.out (show w.heap.size≤w.heap.size+1+1 by omega) (.bool (zneg z)) (.slice a1 n1 c1) (.slice b1 m1 d1))
 have HW1:=hd_ (R1.out.stored3 HR.out (zneg z) a1 n1 c1 (.slice b1 m1 d1))
 have HW2:=hd_ (T1.out.stored3 HR.out (zneg z) a1 n1 c1 (.slice b1 m1 d1))
 go_wp2
 refine bodyPost_ret (results_cell_row Tryz.results92 _ _ (w.heap.size+1+1) 44 #[.bool (zneg z),.slice a1 n1 c1,.slice b1 m1 d1] (0,0) _ rfl HG.out Tryz.underlying44 rfl (by kernel_rfl)) rfl ?_
 exact⟨a1,n1,c1,b1,m1,d1,rfl,HW1.out,HW2.out,HL.out⟩
theorem frac_new(neg:Bool)(a:OA_)(n cap:Nat)(la:List Nat)(b:OA_)(m cap':Nat)(lb:List Nat)(w:World)(ha:Wd w a n cap la)(hb:Wd w b m cap' lb)(hn:n≤41943040000)(hm:m≤41943040000) :
 Calls Tryz.prog 126 #[whV neg a n cap,.slice b m cap'] w (di_ (qval neg (val la) (val lb)) (.bool (decide (val lb≠0))) w):=by
 have HB:=hd_ (ab_ (aa_ w (.cells #[.bool neg,.slice a n cap] 42)) (aa_ _ (.cells #[.bool false,.slice none 0 0,.slice none 0 0] 44)))
 have HA:=hd_ (ha.later HB.out)
 have HC:=hd_ (hb.later HB.out)
 obtain⟨hx1,hx2⟩:=dx_ w ((w.alloc (.cells #[.bool neg,.slice a n cap] 42)).alloc (.cells #[.bool false,.slice none 0 0,.slice none 0 0] 44)) #[.bool neg,.slice a n cap] #[.bool false,.slice none 0 0,.slice none 0 0] 42 44 (Below.refl _ _)
 have HX:=hd_ hx1
 have HR:=hd_ hx2
 have ta:=ha.trim_le
 clear hx1 hx2 ha hb
 obtain⟨q,hq⟩:∃q,qval neg (val la) (val lb)=q:=⟨_,rfl⟩
 rw[hq]
 have HQ:=hd_ hq
 clear hq
 go_enter Tryz.func126,Tryz.ntmps126
 unfold whV
 obtain⟨vk0,vk1,vk2,vk3,vk4⟩:=b8_ HX.out HR.out
 go_wp2_with fail
 refine (natSaid.zero b m cap' lb _ HC.out (by omega)).mono ?_
 rintro e wv1 ⟨rfl,b⟩
 clear vk0 vk1 vk2 vk3 vk4
 replace HB:=bt_ HB b
 replace HX:=bl_ HX b
 replace HR:=bl_ HR b
 replace HA:=HA.l_ b
 replace HC:=HC.l_ b
 clear b
 by_cases h0:val lb=0
 ·have HD:Hid (decide (val lb≠0)=false):=hd_ (by rw[decide_eq_false];exact fun h=>h h0)
  have HQ0:Hid (((0:Int):Rat)=q):=hd_ (by rw[←HQ.out,d5_ neg (.inl h0)];rfl)
  rw[decide_eq_true h0]
  clear h0 HQ
  clear HA HC
  obtain⟨uk0,uk1,uk2,uk3,uk4⟩:=b8_ HX.out HR.out
  go_wp2_with fail
  refine (eq_ 0 _ es_).mono ?_
  rintro e wu1 ⟨a1,n1,c1,b1,m1,d1,rfl,h1,g1,b⟩
  clear uk0 uk1 uk2 uk3 uk4
  replace HB:=bt_ HB b
  replace HX:=bl_ HX b
  replace HR:=bl_ HR b
  clear b
  rw[HQ0.out] at h1 g1 ⊢
  have R1:=hd_ h1
  have T1:=hd_ g1
  clear h1 g1
  unfold frV
  have q0:=ad_ HR.out 0
  have q1:=ad_ HR.out 1
  have q2:=ad_ HR.out 2
  simp only[List.getElem?_toArray,List.getElem?_cons_zero,List.getElem?_cons_succ] at q0 q1 q2
  have f0:=af_ HR.out 0
  have f1:=af_ HR.out 1
  have f2:=af_ HR.out 2
  replace HX:=hd_ (bv_ HX.out (show w.heap.size≠w.heap.size+1 by omega) (.bool (zneg q.num)) (.slice a1 n1 c1) (.slice b1 m1 d1))
  replace R1:=hd_ (R1.out.stored3 HR.out ((zneg q.num)) a1 n1 c1 (.slice b1 m1 d1))
  replace T1:=hd_ (T1.out.stored3 HR.out ((zneg q.num)) a1 n1 c1 (.slice b1 m1 d1))
  replace HB:=hd_ (aw_ HB.out (show w.heap.size≤w.heap.size+1 by omega) (.bool (zneg q.num)) (.slice a1 n1 c1) (.slice b1 m1 d1))
  replace HR:=hd_ (bm_ HR.out (.bool (zneg q.num)) (.slice a1 n1 c1) (.slice b1 m1 d1))
  go_wp2
  refine bodyPost_ret (bi_ Tryz.results126 _ _ (w.heap.size+1) 44 #[.bool (zneg q.num),.slice a1 n1 c1,.slice b1 m1 d1] (0,0) _ rfl HR.out Tryz.underlying44 rfl (by kernel_rfl)) rfl ?_
  exact⟨a1,n1,c1,b1,m1,d1,by rw[HD.out];rfl,R1.out,T1.out,HB.out⟩
 ·have HD:Hid (decide (val lb≠0)=true):=hd_ (decide_eq_true h0)
  have HZ:Hid (zval neg (val (dg (val la / Nat.gcd (val la) (val lb))))=q.num):=hd_ (by rw[a8_,←HQ.out];exact (e4_ neg h0).1.symm)
  have HE:Hid (val lb / Nat.gcd (val la) (val lb)=q.den):=hd_ (by rw[←HQ.out];exact (e4_ neg h0).2.symm)
  have ql:(dg (val la / Nat.gcd (val la) (val lb))).length≤n:=Nat.le_trans (az_ (Nat.div_le_self _ _)) ta
  rw[decide_eq_false h0]
  clear h0 HQ
  obtain⟨uk0,uk1,uk2,uk3,uk4⟩:=b8_ HX.out HR.out
  go_wp2_with fail
  refine (hn_ a n cap la b m cap' lb _ HA.out HC.out hn hm).mono ?_
  rintro e wu1 ⟨a1,n1,c1,b2,m2,d2,rfl,h1,g2,b⟩
  clear uk0 uk1 uk2 uk3 uk4
  replace HB:=bt_ HB b
  replace HX:=bl_ HX b
  replace HR:=bl_ HR b
  clear HA
  clear HC
  clear b
  rw[HE.out] at g2
  have ln1:=h1.len
  have R1:=hd_ h1
  have T2:=hd_ g2
  clear h1 g2
  obtain⟨uk0,uk1,uk2,uk3,uk4⟩:=b8_ HX.out HR.out
  go_wp2_with fail
  refine (rb_ neg a1 n1 c1 _ _ R1.out (by omega)).mono ?_
  rintro e wu2 ⟨a2,n2,c2,rfl,h2,b⟩
  clear uk0 uk1 uk2 uk3 uk4
  replace HB:=bt_ HB b
  replace HX:=bl_ HX b
  replace HR:=bl_ HR b
  clear R1
  replace T2:=T2.l_ b
  clear b
  rw[HZ.out] at h2 ⊢
  have R2:=hd_ h2
  clear h2
  unfold whV
  have q0:=ad_ HR.out 0
  have q1:=ad_ HR.out 1
  have q2:=ad_ HR.out 2
  simp only[List.getElem?_toArray,List.getElem?_cons_zero,List.getElem?_cons_succ] at q0 q1 q2
  have f0:=af_ HR.out 0
  have f1:=af_ HR.out 1
  have f2:=af_ HR.out 2
  replace HX:=hd_ (bv_ HX.out (show w.heap.size≠w.heap.size+1 by omega) (.bool (zneg q.num)) (.slice a2 n2 c2) (.slice b2 m2 d2))
  replace T2:=hd_ (T2.out.stored3 HR.out ((zneg q.num)) a2 n2 c2 (.slice b2 m2 d2))
  replace R2:=hd_ (R2.out.stored3 HR.out ((zneg q.num)) a2 n2 c2 (.slice b2 m2 d2))
  replace HB:=hd_ (aw_ HB.out (show w.heap.size≤w.heap.size+1 by omega) (.bool (zneg q.num)) (.slice a2 n2 c2) (.slice b2 m2 d2))
  replace HR:=hd_ (bm_ HR.out (.bool (zneg q.num)) (.slice a2 n2 c2) (.slice b2 m2 d2))
  go_wp2
  refine bodyPost_ret (bi_ Tryz.results126 _ _ (w.heap.size+1) 44 #[.bool (zneg q.num),.slice a2 n2 c2,.slice b2 m2 d2] (0,0) _ rfl HR.out Tryz.underlying44 rfl (by kernel_rfl)) rfl ?_
  exact⟨a2,n2,c2,b2,m2,d2,by rw[HD.out];rfl,R2.out,T2.out,HB.out⟩
theorem ha_(neg:Bool)(a:OA_)(n cap:Nat)(la:List Nat)(b:OA_)(m cap':Nat)(lb:List Nat)(w:World)(ha:Wd w a n cap la)(hb:Wd w b m cap' lb)(hn:n≤41943040000)(hm:m≤41943040000) :
 Calls Tryz.prog 86 #[frV neg a n cap b m cap'] w (LstQ (qval neg (val la) (val lb)) w):=by
 have HB:=hd_ (ab_ (aa_ w (.cells #[.bool neg,.slice a n cap,.slice b m cap'] 44)) (aa_ _ (.cells #[.bool false,.slice none 0 0,.slice none 0 0] 44)))
 have HA:=hd_ (ha.later HB.out)
 have HC:=hd_ (hb.later HB.out)
 obtain⟨hx1,hx2⟩:=dx_ w ((w.alloc (.cells #[.bool neg,.slice a n cap,.slice b m cap'] 44)).alloc (.cells #[.bool false,.slice none 0 0,.slice none 0 0] 44)) #[.bool neg,.slice a n cap,.slice b m cap'] #[.bool false,.slice none 0 0,.slice none 0 0] 44 44 (Below.refl _ _)
 have HX:=hd_ hx1
 have HR:=hd_ hx2
 clear hx1 hx2 ha hb
 obtain⟨q,hq⟩:∃q,qval neg (val la) (val lb)=q:=⟨_,rfl⟩
 rw[hq]
 have HQ:=hd_ hq
 clear hq
 go_enter Tryz.func86,Tryz.ntmps86
 unfold frV
 obtain⟨vk0,vk1,vk2,vk3,vk4,vk5⟩:=a7_ HX.out HR.out
 go_wp2_with fail
 refine (frac_new neg a n cap la b m cap' lb _ HA.out HC.out hn hm).mono ?_
 rintro e wv1 ⟨a1,n1,c1,b1,m1,d1,rfl,h1,g1,b⟩
 clear vk0 vk1 vk2 vk3 vk4 vk5
 replace HB:=bt_ HB b
 replace HX:=bl_ HX b
 replace HR:=bl_ HR b
 clear HA
 clear HC
 clear b
 rw[HQ.out] at h1 g1 ⊢
 have R1:=hd_ h1
 have T1:=hd_ g1
 clear h1 g1
 generalize decide (val lb≠0)=s at *
 unfold frV
 have HP:Hid ((World.alloc wv1 (.cells #[.bool (zneg q.num),.slice a1 n1 c1,.slice b1 m1 d1] 44)).heap[wv1.heap.size]? = some (.cells #[.bool (zneg q.num),.slice a1 n1 c1,.slice b1 m1 d1] 44 (0,0))):=hd_ (aj_ wv1 _ _)
 replace HB:=hd_ (ab_ HB.out (aa_ wv1 (.cells #[.bool (zneg q.num),.slice a1 n1 c1,.slice b1 m1 d1] 44)))
 replace HX:=hd_ (ae_ HX.out (aa_ wv1 (.cells #[.bool (zneg q.num),.slice a1 n1 c1,.slice b1 m1 d1] 44)))
 replace HR:=hd_ (ae_ HR.out (aa_ wv1 (.cells #[.bool (zneg q.num),.slice a1 n1 c1,.slice b1 m1 d1] 44)))
 replace R1:=hd_ (R1.out.later (aa_ wv1 (.cells #[.bool (zneg q.num),.slice a1 n1 c1,.slice b1 m1 d1] 44)))
 replace T1:=hd_ (T1.out.later (aa_ wv1 (.cells #[.bool (zneg q.num),.slice a1 n1 c1,.slice b1 m1 d1] 44)))
 obtain⟨vk0,vk1,vk2,vk3,vk4,vk5,vk6,vk7,vk8⟩:=bj_ HX.out HR.out HP.out
 have q0:=ad_ HR.out 0
 have q1:=ad_ HR.out 1
 have q2:=ad_ HR.out 2
 simp only[List.getElem?_toArray,List.getElem?_cons_zero,List.getElem?_cons_succ] at q0 q1 q2
 have f0:=af_ HR.out 0
 have f1:=af_ HR.out 1
 have f2:=af_ HR.out 2
 replace R1:=hd_ (R1.out.stored3 HR.out ((zneg q.num)) a1 n1 c1 (.slice b1 m1 d1))
 replace T1:=hd_ (T1.out.stored3 HR.out ((zneg q.num)) a1 n1 c1 (.slice b1 m1 d1))
 replace HB:=hd_ (aw_ HB.out (show w.heap.size≤w.heap.size+1 by omega) (.bool (zneg q.num)) (.slice a1 n1 c1) (.slice b1 m1 d1))
 replace HR:=hd_ (bm_ HR.out (.bool (zneg q.num)) (.slice a1 n1 c1) (.slice b1 m1 d1))
 go_wp2
 refine bodyPost_ret (results_cell_row Tryz.results86 _ _ (w.heap.size+1) 44 #[.bool (zneg q.num),.slice a1 n1 c1,.slice b1 m1 d1] (0,0) _ rfl HR.out Tryz.underlying44 rfl (by kernel_rfl)) rfl ?_
 exact⟨a1,n1,c1,b1,m1,d1,rfl,R1.out,T1.out,HB.out⟩
theorem qi_(na:Bool)(a:OA_)(n cap:Nat)(la:List Nat)(b:OA_)(m cap':Nat)(lb:List Nat)(nb:Bool)(a':OA_)(n' c':Nat)(la':List Nat)(b':OA_)(m' d':Nat)(lb':List Nat)(w:World)(ha:Wd w a n cap la)(hb:Wd w b m cap' lb)(ha':Wd w a' n' c' la')(hb':Wd w b' m' d' lb')(hn:n≤15728640000)(hm:m≤15728640000)(hn':n'≤15728640000)(hm':m'≤15728640000) :
 Calls Tryz.prog 43 #[frV na a n cap b m cap',frV nb a' n' c' b' m' d'] w (LstQ (qval na (val la) (val lb) * qval nb (val la') (val lb')) w):=by
 have HB:=hd_ (ab_ (ab_ (aa_ w (.cells #[.bool na,.slice a n cap,.slice b m cap'] 44)) (aa_ _ (.cells #[.bool nb,.slice a' n' c',.slice b' m' d'] 44))) (aa_ _ (.cells #[.bool false,.slice none 0 0,.slice none 0 0] 44)))
 have HA:=hd_ (ha.later HB.out)
 have HC:=hd_ (hb.later HB.out)
 have HA':=hd_ (ha'.later HB.out)
 have HC':=hd_ (hb'.later HB.out)
 obtain⟨hx1,hx2,hx3⟩:=e9_ w #[.bool na,.slice a n cap,.slice b m cap'] #[.bool nb,.slice a' n' c',.slice b' m' d'] #[.bool false,.slice none 0 0,.slice none 0 0] 44 44 44
 have HX:=hd_ hx1
 have HY:=hd_ hx2
 have HR:=hd_ hx3
 have ta:=ha.trim_le
 have tb:=hb.trim_le
 have ta':=ha'.trim_le
 have tb':=hb'.trim_le
 clear ha hb ha' hb' hx1 hx2 hx3
 obtain⟨q,hq⟩:∃q,qval na (val la) (val lb) * qval nb (val la') (val lb')=q:=⟨_,rfl⟩
 rw[hq]
 have HQ:=hd_ hq
 clear hq
 have zl1:=hh_ (zval na (val la)) (zval nb (val la'))
 have zl2:=b1_ (val lb) (val lb')
 rw[d6_,d6_] at zl1
 have HZ:Hid (qval (zneg (zval na (val la) * zval nb (val la'))) (val (dg (zval na (val la) * zval nb (val la')).natAbs)) (val (dg (val lb * val lb')))=q):=hd_ (by rw[a8_,a8_,lg_,oa_,HQ.out])
 go_enter Tryz.func43,Tryz.ntmps43
 unfold frV
 obtain⟨vk0,vk1,vk2,vk3,vk4,vk5,vk6,vk7,vk8⟩:=bj_ HX.out HY.out HR.out
 go_wp2_with fail
 refine (m9_ na a n cap la b m cap' lb nb a' n' c' la' b' m' d' lb' _ HA.out HC.out HA'.out HC'.out (by omega) (by omega) (by omega) (by omega)).mono ?_
 rintro e wv1 ⟨a1,n1,c1,b1,m1,d1,rfl,h1,g1,b⟩
 clear vk0 vk1 vk2 vk3 vk4 vk5 vk6 vk7 vk8
 replace HB:=bt_ HB b
 replace HX:=bl_ HX b
 replace HY:=bl_ HY b
 replace HR:=bl_ HR b
 clear HA
 clear HC
 clear HA'
 clear HC'
 clear b
 have ln1:=h1.len
 have lm1:=g1.len
 have R1:=hd_ h1
 have T1:=hd_ g1
 clear h1 g1
 unfold frV
 obtain⟨vk0,vk1,vk2,vk3,vk4,vk5,vk6,vk7,vk8⟩:=bj_ HX.out HY.out HR.out
 go_wp2_with fail
 refine (ha_ _ a1 n1 c1 _ b1 m1 d1 _ _ R1.out T1.out (by omega) (by omega)).mono ?_
 rintro e wv2 ⟨a2,n2,c2,b2,m2,d2,rfl,h2,g2,b⟩
 clear vk0 vk1 vk2 vk3 vk4 vk5 vk6 vk7 vk8
 replace HB:=bt_ HB b
 replace HX:=bl_ HX b
 replace HY:=bl_ HY b
 replace HR:=bl_ HR b
 clear R1
 clear T1
 clear b
 rw[HZ.out] at h2 g2 ⊢
 have R2:=hd_ h2
 have T2:=hd_ g2
 clear h2 g2
 unfold frV
 have q0:=ad_ HR.out 0
 have q1:=ad_ HR.out 1
 have q2:=ad_ HR.out 2
 simp only[List.getElem?_toArray,List.getElem?_cons_zero,List.getElem?_cons_succ] at q0 q1 q2
 have f0:=af_ HR.out 0
 have f1:=af_ HR.out 1
 have f2:=af_ HR.out 2
 replace HX:=hd_ (bv_ HX.out (show w.heap.size≠w.heap.size+1+1 by omega) (.bool (zneg q.num)) (.slice a2 n2 c2) (.slice b2 m2 d2))
 replace HY:=hd_ (bv_ HY.out (show w.heap.size+1≠w.heap.size+1+1 by omega) (.bool (zneg q.num)) (.slice a2 n2 c2) (.slice b2 m2 d2))
 replace R2:=hd_ (R2.out.stored3 HR.out ((zneg q.num)) a2 n2 c2 (.slice b2 m2 d2))
 replace T2:=hd_ (T2.out.stored3 HR.out ((zneg q.num)) a2 n2 c2 (.slice b2 m2 d2))
 replace HB:=hd_ (aw_ HB.out (show w.heap.size≤w.heap.size+1+1 by omega) (.bool (zneg q.num)) (.slice a2 n2 c2) (.slice b2 m2 d2))
 replace HR:=hd_ (bm_ HR.out (.bool (zneg q.num)) (.slice a2 n2 c2) (.slice b2 m2 d2))
 go_wp2
 refine bodyPost_ret (results_cell_row Tryz.results43 _ _ (w.heap.size+1+1) 44 #[.bool (zneg q.num),.slice a2 n2 c2,.slice b2 m2 d2] (0,0) _ rfl HR.out Tryz.underlying44 rfl (by kernel_rfl)) rfl ?_
 exact⟨a2,n2,c2,b2,m2,d2,rfl,R2.out,T2.out,HB.out⟩
theorem p2_(na:Bool)(a:OA_)(n cap:Nat)(la:List Nat)(b:OA_)(m cap':Nat)(lb:List Nat)(nb:Bool)(a':OA_)(n' c':Nat)(la':List Nat)(b':OA_)(m' d':Nat)(lb':List Nat)(w:World)(ha:Wd w a n cap la)(hb:Wd w b m cap' lb)(ha':Wd w a' n' c' la')(hb':Wd w b' m' d' lb')(hn:n≤15728640000)(hm:m≤15728640000)(hn':n'≤15728640000)(hm':m'≤15728640000) :
 Calls Tryz.prog 63 #[frV na a n cap b m cap',frV nb a' n' c' b' m' d'] w (di_ (qval na (val la) (val lb) / qval nb (val la') (val lb')) (.bool (decide (qval nb (val la') (val lb')≠0))) w):=by
 have HB:=hd_ (ab_ (ab_ (aa_ w (.cells #[.bool na,.slice a n cap,.slice b m cap'] 44)) (aa_ _ (.cells #[.bool nb,.slice a' n' c',.slice b' m' d'] 44))) (aa_ _ (.cells #[.bool false,.slice none 0 0,.slice none 0 0] 44)))
 have HA:=hd_ (ha.later HB.out)
 have HC:=hd_ (hb.later HB.out)
 have HA':=hd_ (ha'.later HB.out)
 have HC':=hd_ (hb'.later HB.out)
 obtain⟨hx1,hx2,hx3⟩:=e9_ w #[.bool na,.slice a n cap,.slice b m cap'] #[.bool nb,.slice a' n' c',.slice b' m' d'] #[.bool false,.slice none 0 0,.slice none 0 0] 44 44 44
 have HX:=hd_ hx1
 have HY:=hd_ hx2
 have HR:=hd_ hx3
 have ta:=ha.trim_le
 have tb:=hb.trim_le
 have ta':=ha'.trim_le
 have tb':=hb'.trim_le
 clear ha hb ha' hb' hx1 hx2 hx3
 have H0:Hid (sgn (qval nb (val la') (val lb')).num=0→qval na (val la) (val lb) / qval nb (val la') (val lb')=0∧qval nb (val la') (val lb')=0):=hd_ (fun h=>by
  have h1:=fc_qsign_zero.1 h
  exact⟨by rw[h1,Rat.div_def,Rat.inv_zero,Rat.mul_zero],h1⟩)
 have H1:Hid (sgn (qval nb (val la') (val lb')).num≠0→qval nb (val la') (val lb')≠0):=hd_ (fun h e=>h (fc_qsign_zero.2 e))
 have HT:Hid (qval na (val la) (val lb) * qval nb (val lb') (val la')=qval na (val la) (val lb) / qval nb (val la') (val lb')):=hd_ (by rw[o0_ nb (val la') (val lb'),Rat.div_def])
 generalize qval na (val la) (val lb) / qval nb (val la') (val lb')=q at *
 generalize hp:qval nb (val la') (val lb')=p at *
 have HP:=hd_ hp
 clear hp
 go_enter Tryz.func63,Tryz.ntmps63
 unfold frV
 obtain⟨vk0,vk1,vk2,vk3,vk4,vk5,vk6,vk7,vk8⟩:=bj_ HX.out HY.out HR.out
 go_wp2_with fail
 refine (e7_ nb a' n' c' la' b' m' d' lb' _ HA'.out HC'.out (by omega) (by omega)).mono ?_
 rintro e wv1 ⟨rfl,b⟩
 clear vk0 vk1 vk2 vk3 vk4 vk5 vk6 vk7 vk8
 replace HB:=bt_ HB b
 replace HX:=bl_ HX b
 replace HY:=bl_ HY b
 replace HR:=bl_ HR b
 replace HA:=HA.l_ b
 replace HC:=HC.l_ b
 replace HA':=HA'.l_ b
 replace HC':=HC'.l_ b
 clear b
 rw[HP.out]
 generalize sgn p.num=s at *
 by_cases h0:s=0
 ·have hs:(s == 0)=true:=by simp[h0]
  have HQ0:Hid (((0:Int):Rat)=q):=hd_ (by rw[(H0.out h0).1];rfl)
  have HD:Hid (decide (p≠0)=false):=hd_ (decide_eq_false (fun h=>h (H0.out h0).2))
  clear h0 H0 H1 HA HC HA' HC'
  obtain⟨uk0,uk1,uk2,uk3,uk4,uk5,uk6,uk7,uk8⟩:=bj_ HX.out HY.out HR.out
  go_wp2_with fail
  refine (eq_ 0 _ es_).mono ?_
  rintro e wu1 ⟨a1,n1,c1,b1,m1,d1,rfl,h1,g1,b⟩
  clear uk0 uk1 uk2 uk3 uk4 uk5 uk6 uk7 uk8
  replace HB:=bt_ HB b
  replace HX:=bl_ HX b
  replace HY:=bl_ HY b
  replace HR:=bl_ HR b
  clear b
  rw[HQ0.out] at h1 g1 ⊢
  have R1:=hd_ h1
  have T1:=hd_ g1
  clear h1 g1
  unfold frV
  have q0:=ad_ HR.out 0
  have q1:=ad_ HR.out 1
  have q2:=ad_ HR.out 2
  simp only[List.getElem?_toArray,List.getElem?_cons_zero,List.getElem?_cons_succ] at q0 q1 q2
  have f0:=af_ HR.out 0
  have f1:=af_ HR.out 1
  have f2:=af_ HR.out 2
  replace HX:=hd_ (bv_ HX.out (show w.heap.size≠w.heap.size+1+1 by omega) (.bool (zneg q.num)) (.slice a1 n1 c1) (.slice b1 m1 d1))
  replace HY:=hd_ (bv_ HY.out (show w.heap.size+1≠w.heap.size+1+1 by omega) (.bool (zneg q.num)) (.slice a1 n1 c1) (.slice b1 m1 d1))
  replace R1:=hd_ (R1.out.stored3 HR.out ((zneg q.num)) a1 n1 c1 (.slice b1 m1 d1))
  replace T1:=hd_ (T1.out.stored3 HR.out ((zneg q.num)) a1 n1 c1 (.slice b1 m1 d1))
  replace HB:=hd_ (aw_ HB.out (show w.heap.size≤w.heap.size+1+1 by omega) (.bool (zneg q.num)) (.slice a1 n1 c1) (.slice b1 m1 d1))
  replace HR:=hd_ (bm_ HR.out (.bool (zneg q.num)) (.slice a1 n1 c1) (.slice b1 m1 d1))
  go_wp2
  refine bodyPost_ret (bi_ Tryz.results63 _ _ (w.heap.size+1+1) 44 #[.bool (zneg q.num),.slice a1 n1 c1,.slice b1 m1 d1] (0,0) _ rfl HR.out Tryz.underlying44 rfl (by kernel_rfl)) rfl ?_
  exact⟨a1,n1,c1,b1,m1,d1,by rw[HD.out];rfl,R1.out,T1.out,HB.out⟩
 ·have hs:(s == 0)=false:=by simp[h0]
  have HD:Hid (decide (p≠0)=true):=hd_ (decide_eq_true (H1.out h0))
  clear h0 H0 H1
  obtain⟨uk0,uk1,uk2,uk3,uk4,uk5,uk6,uk7,uk8⟩:=bj_ HX.out HY.out HR.out
  go_wp2
  clear uk0 uk1 uk2 uk3 uk4 uk5 uk6 uk7 uk8
  replace HB:=bt_ HB (dw_ wv1)
  replace HX:Hid (wv1.drew.heap[w.heap.size]? = _):=hd_ HX.out
  replace HY:Hid (wv1.drew.heap[w.heap.size+1]? = _):=hd_ HY.out
  replace HR:Hid (wv1.drew.heap[w.heap.size+1+1]? = some (.cells #[.bool false,.slice none 0 0,.slice none 0 0] 44 (0,0))):=hd_ HR.out
  replace HA:=HA.l_ (dw_ wv1)
  replace HC:=HC.l_ (dw_ wv1)
  replace HA':=HA'.l_ (dw_ wv1)
  replace HC':=HC'.l_ (dw_ wv1)
  have pSn:=a7_ HX.out HY.out
  go_region_held3 (fun w'=>w'.cell? ⟨w.heap.size,0,none⟩=some (.bool na)∧w'.cell? ⟨w.heap.size,1,none⟩=some (.slice a n cap)∧w'.cell? ⟨w.heap.size,2,none⟩=some (.slice b m cap')∧w'.cell? ⟨w.heap.size+1,0,none⟩=some (.bool nb)∧w'.cell? ⟨w.heap.size+1,1,none⟩=some (.slice a' n' c')∧w'.cell? ⟨w.heap.size+1,2,none⟩=some (.slice b' m' d')) (first | exact pSn | exact pSb _ _ _)
   (first
   | (go_at_call 108;(first
     | (refine (qz_ nb a' n' c' b' m' d' _).mono ?_;rintro e wp1 ⟨rfl,b⟩;replace HB:=bt_ HB b;replace HX:=bl_ HX b;replace HY:=bl_ HY b;replace HR:=bl_ HR b;replace HA:=HA.l_ b;replace HC:=HC.l_ b;replace HA':=HA'.l_ b;replace HC':=HC'.l_ b;unfold frV;clear b;clear pSn;have pSn:=a7_ HX.out HY.out;have pM1:=True.intro)))
   | (go_at_call 43;(first
     | (have pm1:=pM1;refine (qi_ na a n cap la b m cap' lb nb b' m' d' lb' a' n' c' la' _ HA.out HC.out HC'.out HA'.out hn hm hm' hn').mono ?_;rintro e wp2 ⟨a1,n1,c1,b1,m1,d1,rfl,h1,g1,b⟩;replace HB:=bt_ HB b;replace HX:=bl_ HX b;replace HY:=bl_ HY b;replace HR:=bl_ HR b;replace HA:=HA.l_ b;replace HC:=HC.l_ b;replace HA':=HA'.l_ b;replace HC':=HC'.l_ b;rw[HT.out] at h1 g1 ⊢;have R1:=hd_ h1;have T1:=hd_ g1;clear h1 g1;obtain⟨r0,r1,r2⟩:=as_ HR.out;have f0:=af_ HR.out 0;have f1:=af_ HR.out 1;have f2:=af_ HR.out 2;have pSb:=fun u v q=>a7_ (bv_ (g:=w.heap.size+1+1) HX.out (by omega) u v q) (bv_ (g:=w.heap.size+1+1) HY.out (by omega) u v q);unfold frV;clear b;clear pSn;have pSn:=a7_ HX.out HY.out;clear pM1 pm1;have pM2:=True.intro))))
  have HG:=hd_ (bm_ HR.out (.bool (zneg q.num)) (.slice a1 n1 c1) (.slice b1 m1 d1))
  have HL:=hd_ (aw_ HB.out (show w.heap.size≤w.heap.size+1+1 by omega) (.bool (zneg q.num)) (.slice a1 n1 c1) (.slice b1 m1 d1))
  have HW1:=hd_ (R1.out.stored3 HR.out (zneg q.num) a1 n1 c1 (.slice b1 m1 d1))
  have HW2:=hd_ (T1.out.stored3 HR.out (zneg q.num) a1 n1 c1 (.slice b1 m1 d1))
  go_wp2
  refine bodyPost_ret (bi_ Tryz.results63 _ _ (w.heap.size+1+1) 44 #[.bool (zneg q.num),.slice a1 n1 c1,.slice b1 m1 d1] (0,0) _ rfl HG.out Tryz.underlying44 rfl (by kernel_rfl)) rfl ?_
  exact⟨a1,n1,c1,b1,m1,d1,by rw[HD.out];rfl,HW1.out,HW2.out,HL.out⟩
theorem rc_(x y:Int)(w:World)(hx:ht_ x)(hy:ht_ y):Calls Tryz.prog 48 #[.int .i64 x,.int .i64 y] w (di_ ((x:Rat) / (y:Rat)) (.bool (decide (y≠0))) w):=by
 have lx:=co_ hx
 have ly:=co_ hy
 have HX:=hd_ hx
 have HY:=hd_ hy
 have HB:=hd_ (aa_ w (.cells #[.bool false,.slice none 0 0,.slice none 0 0] 44))
 have HR:=hd_ (aj_ w #[.bool false,.slice none 0 0,.slice none 0 0] 44)
 have HD:Hid (decide ((y:Rat)≠0)=decide (y≠0)):=hd_ (decide_eq_decide.2 (by rw[Ne,Rat.intCast_eq_zero_iff]))
 clear hx hy
 generalize hp:(x:Rat)=p at *
 generalize hr:(y:Rat)=r at *
 have HPX:=hd_ hp
 have HRY:=hd_ hr
 clear hp hr
 have HT:Hid (qval (zneg p.num) (val (dg p.num.natAbs)) (val (dg p.den)) / qval (zneg r.num) (val (dg r.num.natAbs)) (val (dg r.den))=p / r):=hd_ (by rw[fu_,fu_])
 have HE:Hid (decide (qval (zneg r.num) (val (dg r.num.natAbs)) (val (dg r.den))≠0)=decide (y≠0)):=hd_ (by rw[fu_];exact HD.out)
 have l1:=bd_ p
 have l2:=bc_ p
 have l3:=bd_ r
 have l4:=bc_ r
 obtain⟨q,hq⟩:∃q,p / r=q:=⟨_,rfl⟩
 rw[hq]
 have HQ:=hd_ hq
 clear hq
 go_enter Tryz.func48,Tryz.ntmps48
 obtain⟨vk0,vk1,vk2⟩:=as_ HR.out
 go_wp2_with fail
 refine (eq_ x _ HX.out).mono ?_
 rintro e wv1 ⟨a1,n1,c1,b1,m1,d1,rfl,h1,g1,b⟩
 clear vk0 vk1 vk2
 replace HB:=bt_ HB b
 replace HR:=bl_ HR b
 clear b
 rw[HPX.out] at h1 g1 ⊢
 have ln1:=h1.len
 have lm1:=g1.len
 have R1:=hd_ h1
 have T1:=hd_ g1
 clear h1 g1
 unfold frV
 obtain⟨vk0,vk1,vk2⟩:=as_ HR.out
 go_wp2_with fail
 refine (eq_ y _ HY.out).mono ?_
 rintro e wv2 ⟨a2,n2,c2,b2,m2,d2,rfl,h2,g2,b⟩
 clear vk0 vk1 vk2
 replace HB:=bt_ HB b
 replace HR:=bl_ HR b
 replace R1:=R1.l_ b
 replace T1:=T1.l_ b
 clear b
 rw[HRY.out] at h2 g2 ⊢
 have ln2:=h2.len
 have lm2:=g2.len
 have R2:=hd_ h2
 have T2:=hd_ g2
 clear h2 g2
 unfold frV
 obtain⟨vk0,vk1,vk2⟩:=as_ HR.out
 go_wp2_with fail
 refine (p2_ _ a1 n1 c1 _ b1 m1 d1 _ _ a2 n2 c2 _ b2 m2 d2 _ _ R1.out T1.out R2.out T2.out (by omega) (by omega) (by omega) (by omega)).mono ?_
 rintro e wv3 ⟨a3,n3,c3,b3,m3,d3,rfl,h3,g3,b⟩
 clear vk0 vk1 vk2
 replace HB:=bt_ HB b
 replace HR:=bl_ HR b
 clear R1
 clear T1
 clear R2
 clear T2
 clear b
 rw[HT.out,HQ.out] at h3 g3
 rw[HT.out,HQ.out,HE.out]
 generalize decide (y≠0)=s at *
 have R3:=hd_ h3
 have T3:=hd_ g3
 clear h3 g3
 unfold frV
 have q0:=ad_ HR.out 0
 have q1:=ad_ HR.out 1
 have q2:=ad_ HR.out 2
 simp only[List.getElem?_toArray,List.getElem?_cons_zero,List.getElem?_cons_succ] at q0 q1 q2
 have f0:=af_ HR.out 0
 have f1:=af_ HR.out 1
 have f2:=af_ HR.out 2
 replace R3:=hd_ (R3.out.stored3 HR.out ((zneg q.num)) a3 n3 c3 (.slice b3 m3 d3))
 replace T3:=hd_ (T3.out.stored3 HR.out ((zneg q.num)) a3 n3 c3 (.slice b3 m3 d3))
 replace HB:=hd_ (aw_ HB.out (show w.heap.size≤w.heap.size by omega) (.bool (zneg q.num)) (.slice a3 n3 c3) (.slice b3 m3 d3))
 replace HR:=hd_ (bm_ HR.out (.bool (zneg q.num)) (.slice a3 n3 c3) (.slice b3 m3 d3))
 go_wp2
 refine bodyPost_ret (bi_ Tryz.results48 _ _ (w.heap.size) 44 #[.bool (zneg q.num),.slice a3 n3 c3,.slice b3 m3 d3] (0,0) _ rfl HR.out Tryz.underlying44 rfl (by kernel_rfl)) rfl ?_
 exact⟨a3,n3,c3,b3,m3,d3,rfl,R3.out,T3.out,HB.out⟩
theorem frac_cmp(na:Bool)(a:OA_)(n cap:Nat)(la:List Nat)(b:OA_)(m cap':Nat)(lb:List Nat)(nb:Bool)(a':OA_)(n' c':Nat)(la':List Nat)(b':OA_)(m' d':Nat)(lb':List Nat)(w:World)(ha:Wd w a n cap la)(hb:Wd w b m cap' lb)(ha':Wd w a' n' c' la')(hb':Wd w b' m' d' lb')(hn:n≤41943040000)(hm:m≤41943040000)(hn':n'≤41943040000)(hm':m'≤41943040000) :
 Calls Tryz.prog 85 #[frV na a n cap b m cap',frV nb a' n' c' b' m' d'] w (bg_ (.int .i64 (sgn (qval na (val la) (val lb) - qval nb (val la') (val lb')).num)) w):=by
 have HB:=hd_ (ab_ (aa_ w (.cells #[.bool na,.slice a n cap,.slice b m cap'] 44)) (aa_ _ (.cells #[.bool nb,.slice a' n' c',.slice b' m' d'] 44)))
 have HA:=hd_ (ha.later HB.out)
 have HC:=hd_ (hb.later HB.out)
 have HA':=hd_ (ha'.later HB.out)
 have HC':=hd_ (hb'.later HB.out)
 obtain⟨hx1,hx2⟩:=dx_ w ((w.alloc (.cells #[.bool na,.slice a n cap,.slice b m cap'] 44)).alloc (.cells #[.bool nb,.slice a' n' c',.slice b' m' d'] 44)) #[.bool na,.slice a n cap,.slice b m cap'] #[.bool nb,.slice a' n' c',.slice b' m' d'] 44 44 (Below.refl _ _)
 have HX:=hd_ hx1
 have HY:=hd_ hx2
 have ta:=ha.trim_le
 have tb:=hb.trim_le
 have ta':=ha'.trim_le
 have tb':=hb'.trim_le
 clear ha hb ha' hb' hx1 hx2
 have zl1:=hh_ (zval na (val la)) ((val lb':Nat):Int)
 have zl2:=hh_ (zval nb (val la')) ((val lb:Nat):Int)
 rw[d6_,Int.natAbs_natCast] at zl1 zl2
 have HF:Hid (sgn (qval na (val la) (val lb)).num≠sgn (qval nb (val la') (val lb')).num→sgn (sgn (qval na (val la) (val lb)).num - sgn (qval nb (val la') (val lb')).num)=sgn (qval na (val la) (val lb) - qval nb (val la') (val lb')).num):=hd_ oz_
 have HE0:Hid (sgn (qval na (val la) (val lb)).num=sgn (qval nb (val la') (val lb')).num→sgn (qval na (val la) (val lb)).num=0→sgn (qval na (val la) (val lb) - qval nb (val la') (val lb')).num=0):=hd_ (fun h h0=>by
  rw[fc_qsign_zero.1 h0,fc_qsign_zero.1 (h.symm.trans h0),Rat.sub_self];rfl)
 have HN:Hid (sgn (qval na (val la) (val lb)).num=sgn (qval nb (val la') (val lb')).num→sgn (qval na (val la) (val lb)).num≠0→sgn (zval na (val la) * ((val lb':Nat):Int) - zval nb (val la') * ((val lb:Nat):Int))=sgn (qval na (val la) (val lb) - qval nb (val la') (val lb')).num):=hd_ (fun h h0=>by
  refine na_ (fun e=>h0 ?_) (fun e=>h0 ?_)
  ·rw[d5_ na (.inl e)];rfl
  ·rw[h,d5_ nb (.inl e)];rfl)
 have hra:=gz_ (qval na (val la) (val lb)).num
 have hrb:=gz_ (qval nb (val la') (val lb')).num
 generalize hz:sgn (qval na (val la) (val lb) - qval nb (val la') (val lb')).num=z at *
 generalize hx:sgn (qval na (val la) (val lb)).num=x at *
 generalize hy:sgn (qval nb (val la') (val lb')).num=y at *
 have HSA:=hd_ hx
 have HSB:=hd_ hy
 clear hx hy hz
 go_enter Tryz.func85,Tryz.ntmps85
 unfold frV
 go_wp2
 generalize ((w.alloc (.cells #[.bool na,.slice a n cap,.slice b m cap'] 44)).alloc (.cells #[.bool nb,.slice a' n' c',.slice b' m' d'] 44))=W at *
 replace HB:=bt_ HB (dw_ W)
 replace HX:Hid (W.drew.heap[w.heap.size]? = _):=hd_ HX.out
 replace HY:Hid (W.drew.heap[w.heap.size+1]? = _):=hd_ HY.out
 replace HA:=HA.l_ (dw_ W)
 replace HC:=HC.l_ (dw_ W)
 replace HA':=HA'.l_ (dw_ W)
 replace HC':=HC'.l_ (dw_ W)
 have pSn:=a7_ HX.out HY.out
 go_region_held3 (fun w'=>w'.cell? ⟨w.heap.size,0,none⟩=some (.bool na)∧w'.cell? ⟨w.heap.size,1,none⟩=some (.slice a n cap)∧w'.cell? ⟨w.heap.size,2,none⟩=some (.slice b m cap')∧w'.cell? ⟨w.heap.size+1,0,none⟩=some (.bool nb)∧w'.cell? ⟨w.heap.size+1,1,none⟩=some (.slice a' n' c')∧w'.cell? ⟨w.heap.size+1,2,none⟩=some (.slice b' m' d')) (exact pSn)
  (first
  | (go_at_call 44;(first
    | (have pm1:=pM1;refine (e7_ nb a' n' c' la' b' m' d' lb' _ HA'.out HC'.out (by omega) (by omega)).mono ?_;rintro e wp2 ⟨rfl,b⟩;replace HB:=bt_ HB b;replace HX:=bl_ HX b;replace HY:=bl_ HY b;replace HA:=HA.l_ b;replace HC:=HC.l_ b;replace HA':=HA'.l_ b;replace HC':=HC'.l_ b;rw[HSB.out];clear b;clear pSn;have pSn:=a7_ HX.out HY.out;clear pM1 pm1;have pM2:=True.intro)
    | (refine (e7_ na a n cap la b m cap' lb _ HA.out HC.out (by omega) (by omega)).mono ?_;rintro e wp1 ⟨rfl,b⟩;replace HB:=bt_ HB b;replace HX:=bl_ HX b;replace HY:=bl_ HY b;replace HA:=HA.l_ b;replace HC:=HC.l_ b;replace HA':=HA'.l_ b;replace HC':=HC'.l_ b;rw[HSA.out];clear b;clear pSn;have pSn:=a7_ HX.out HY.out;have pM1:=True.intro))))
 clear HSA HSB pSn pM2
 by_cases hxy:x=y
 ·by_cases hx0:x=0
  ·have HZ:Hid (z=0):=hd_ (HE0.out hxy hx0)
   have HS:Hid (sgn ((0:Int) - 0)=0):=hd_ rfl
   clear HF HE0 HN zl1 zl2
   obtain rfl:y=0:=by omega
   obtain rfl:x=0:=hx0
   clear hxy hra hrb
   go_wp2_with fail
   refine (gt_ 0 0 _).mono ?_
   rintro e w' ⟨rfl,rfl⟩
   rw[HS.out]
   go_wp2
   go_ret
   exact⟨by rw[HZ.out];rfl,HB.out⟩
  ·have hq0:(x == 0)=false:=by simp[hx0]
   have HZ:=hd_ (HN.out hxy hx0)
   clear HF HE0 HN hx0
   subst hxy
   obtain⟨uk0,uk1,uk2,uk3,uk4,uk5⟩:=a7_ HX.out HY.out
   go_wp2
   clear uk0 uk1 uk2 uk3 uk4 uk5
   replace HB:=bt_ HB (dw_ wp2)
   replace HX:Hid (wp2.drew.heap[w.heap.size]? = _):=hd_ HX.out
   replace HY:Hid (wp2.drew.heap[w.heap.size+1]? = _):=hd_ HY.out
   replace HA:=HA.l_ (dw_ wp2)
   replace HC:=HC.l_ (dw_ wp2)
   replace HA':=HA'.l_ (dw_ wp2)
   replace HC':=HC'.l_ (dw_ wp2)
   have rSn:=a7_ HX.out HY.out
   go_region_held3 (fun w'=>w'.cell? ⟨w.heap.size,0,none⟩=some (.bool na)∧w'.cell? ⟨w.heap.size,1,none⟩=some (.slice a n cap)∧w'.cell? ⟨w.heap.size,2,none⟩=some (.slice b m cap')∧w'.cell? ⟨w.heap.size+1,0,none⟩=some (.bool nb)∧w'.cell? ⟨w.heap.size+1,1,none⟩=some (.slice a' n' c')∧w'.cell? ⟨w.heap.size+1,2,none⟩=some (.slice b' m' d')) (exact rSn)
    (first
    | (go_at_call 89;(first
      | (have rm1:=rM1;refine (gh_ nb a' n' c' la' b m cap' lb _ HA'.out HC.out (by omega) (by omega)).mono ?_;rintro e wr2 ⟨a2,n2,c2,rfl,h2,b⟩;replace HB:=bt_ HB b;replace HX:=bl_ HX b;replace HY:=bl_ HY b;replace HA:=HA.l_ b;replace HC:=HC.l_ b;replace HA':=HA'.l_ b;replace HC':=HC'.l_ b;replace R1:=R1.l_ b;have R2:=hd_ h2;have ln2:=h2.len;clear h2;unfold whV;clear b;clear rSn;have rSn:=a7_ HX.out HY.out;clear rM1 rm1;have rM2:=True.intro)
      | (refine (gh_ na a n cap la b' m' d' lb' _ HA.out HC'.out (by omega) (by omega)).mono ?_;rintro e wr1 ⟨a1,n1,c1,rfl,h1,b⟩;replace HB:=bt_ HB b;replace HX:=bl_ HX b;replace HY:=bl_ HY b;replace HA:=HA.l_ b;replace HC:=HC.l_ b;replace HA':=HA'.l_ b;replace HC':=HC'.l_ b;have R1:=hd_ h1;have ln1:=h1.len;clear h1;unfold whV;clear b;clear rSn;have rSn:=a7_ HX.out HY.out;have rM1:=True.intro)))
    | (go_at_call 125;(first
      | (have rm2:=rM2;refine (whole_cmp _ a1 n1 c1 _ _ a2 n2 c2 _ _ R1.out R2.out (by omega) (by omega)).mono ?_;rintro e wr3 ⟨rfl,b⟩;replace HB:=bt_ HB b;replace HX:=bl_ HX b;replace HY:=bl_ HY b;replace HA:=HA.l_ b;replace HC:=HC.l_ b;replace HA':=HA'.l_ b;replace HC':=HC'.l_ b;clear R1;clear R2;rw[my_,my_,HZ.out];clear b;clear rSn;have rSn:=a7_ HX.out HY.out;clear rM2 rm2;have rM3:=True.intro))))
   go_wp2
   go_ret
   exact⟨rfl,HB.out⟩
 ·have hq:(x == y)=false:=by simp[hxy]
  have HZ:=hd_ (HF.out hxy)
  clear HF HE0 HN hxy zl1 zl2
  go_wp2_with fail
  refine (gt_ x y _).mono ?_
  rintro e w' ⟨rfl,rfl⟩
  rw[HZ.out]
  go_wp2
  go_ret
  exact⟨rfl,HB.out⟩
theorem frac_same(na:Bool)(a:OA_)(n cap:Nat)(la:List Nat)(b:OA_)(m cap':Nat)(lb:List Nat)(nb:Bool)(a':OA_)(n' c':Nat)(la':List Nat)(b':OA_)(m' d':Nat)(lb':List Nat)(w:World)(ha:Wd w a n cap la)(hb:Wd w b m cap' lb)(ha':Wd w a' n' c' la')(hb':Wd w b' m' d' lb')(hn:n≤41943040000)(hm:m≤41943040000)(hn':n'≤41943040000)(hm':m'≤41943040000) :
 Calls Tryz.prog 40 #[frV na a n cap b m cap',frV nb a' n' c' b' m' d'] w (bg_ (.bool (decide (qval na (val la) (val lb)=qval nb (val la') (val lb')))) w):=by
 have HB:=hd_ (ab_ (aa_ w (.cells #[.bool na,.slice a n cap,.slice b m cap'] 44)) (aa_ _ (.cells #[.bool nb,.slice a' n' c',.slice b' m' d'] 44)))
 have HA:=hd_ (ha.later HB.out)
 have HC:=hd_ (hb.later HB.out)
 have HA':=hd_ (ha'.later HB.out)
 have HC':=hd_ (hb'.later HB.out)
 obtain⟨hx1,hx2⟩:=dx_ w ((w.alloc (.cells #[.bool na,.slice a n cap,.slice b m cap'] 44)).alloc (.cells #[.bool nb,.slice a' n' c',.slice b' m' d'] 44)) #[.bool na,.slice a n cap,.slice b m cap'] #[.bool nb,.slice a' n' c',.slice b' m' d'] 44 44 (Below.refl _ _)
 have HX:=hd_ hx1
 have HY:=hd_ hx2
 have ta:=ha.trim_le
 have tb:=hb.trim_le
 have ta':=ha'.trim_le
 have tb':=hb'.trim_le
 clear ha hb ha' hb' hx1 hx2
 have HE:Hid ((sgn (qval na (val la) (val lb) - qval nb (val la') (val lb')).num == 0)=decide (qval na (val la) (val lb)=qval nb (val la') (val lb'))):=hd_ (by
  by_cases h:qval na (val la) (val lb)=qval nb (val la') (val lb')
  ·rw[decide_eq_true h,h,Rat.sub_self];rfl
  ·rw[decide_eq_false h,beq_eq_false_iff_ne]
   exact fun e=>h (by
    have h1:=fc_qsign_zero.1 e
    rw[Rat.sub_eq_add_neg] at h1
    have h2:=congrArg (· + qval nb (val la') (val lb')) h1
    simp only[Rat.add_assoc,Rat.neg_add_cancel,Rat.add_zero,Rat.zero_add] at h2
    exact h2))
 go_enter Tryz.func40,Tryz.ntmps40
 unfold frV
 obtain⟨vk0,vk1,vk2,vk3,vk4,vk5⟩:=a7_ HX.out HY.out
 go_wp2_with fail
 refine (frac_cmp na a n cap la b m cap' lb nb a' n' c' la' b' m' d' lb' _ HA.out HC.out HA'.out HC'.out hn hm hn' hm').mono ?_
 rintro e wv1 ⟨rfl,b⟩
 clear vk0 vk1 vk2 vk3 vk4 vk5
 replace HB:=bt_ HB b
 replace HX:=bl_ HX b
 replace HY:=bl_ HY b
 replace HA:=HA.l_ b
 replace HC:=HC.l_ b
 replace HA':=HA'.l_ b
 replace HC':=HC'.l_ b
 clear b
 clear HX HY HA HC HA' HC'
 generalize decide (qval na (val la) (val lb)=qval nb (val la') (val lb'))=s at *
 generalize sgn (qval na (val la) (val lb) - qval nb (val la') (val lb')).num=z at *
 go_wp2
 go_ret
 exact⟨by rw[←HE.out];rfl,HB.out⟩
end Go.Proofs.YtocebjbjnfammaaGreat
