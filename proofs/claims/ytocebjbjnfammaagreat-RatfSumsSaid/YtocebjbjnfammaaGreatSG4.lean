import Derived.Test.YtocebjbjnfammaaGreatSG3
import Derived.Test.YtocebjbjnfammaaGreatSG1
import Derived.Test.YtocebjbjnfammaaGreatSG2
import Derived.BigRegion
import Derived.StillTailTactics
import Derived.Deep.RegionHeld3
set_option maxRecDepth 4096
set_option maxHeartbeats 16000000
namespace Go.Proofs.YtocebjbjnfammaaGreat
open Go.RowKit
theorem kl_(x:Nat)(w:World)(hx:x < 4294967296):Calls Tryz.prog 174 #[.int .u32 (x:Int)] w fun e w'=>e=.returned (.int .i64 ((blen x:Nat):Int))∧w=w':=
 (limb_len (x:Int) w (by omega) (by omega)).mono fun e w' ⟨he,hw⟩=>⟨by rw[he];simp only[Int.toNat_natCast,ml_ (show x < 18446744073709551616 by omega)],hw⟩
theorem twos_len(a:OA_)(n cap:Nat)(l:List Nat)(w:World)(h:Wd w a n cap l)(hn:n≤17592183947264) :
 Calls Tryz.prog 183 #[.slice a n cap] w fun e w'=>e=.returned (.int .i64 ((blen (val l):Nat):Int))∧w=w':=by
 obtain⟨hb1,hb2⟩:=h.bound
 have H:=hd_ h
 clear h
 go_enter Tryz.func183,Tryz.ntmps183
 go_wp2
 go_loop [3] (fun i=>∃k:Nat,k≤n∧i=.int .i64 ((k:Int) - 1)∧Hid (top l k=0)) (fun i=>(intOf i+1).toNat)
 case atStart=>exact⟨n,by omega,by go_num,hd_ (fk_ (by have:=H.out.len;omega))⟩
 case round=>
  obtain⟨k,hk,rfl,Ht⟩:=hrel
  cases k with
  | zero=>
    have Hv:Hid (blen (val l)=0):=hd_ (by rw[←ei_,Ht.out];rfl)
    go_wp2
    go_ret
    exact⟨d2_ (by rw[Hv.out];rfl),rfl⟩
  | succ k=>
    have e1:((k+1:Nat):Int) - 1=(k:Int):=by omega
    rw[e1]
    clear e1
    obtain⟨b,off,rfl,hc⟩:=H.out.at (by omega)
    have hck:=hc k (by omega)
    have hx:=bk_ H.out.ok k
    clear hc
    by_cases hz:atw l k=0
    ·have hzb:(((atw l k:Nat):Int) == 0)=true:=by simp[hz]
     have Hz:=hd_ hz
     clear hz
     go_wp2
     go_round
     case rel=>exact⟨k,by omega,by go_num,hd_ (by rw[b4_,Hz.out,Ht.out])⟩
     case measure=>simp[intOf]
    ·have hzb:(((atw l k:Nat):Int) == 0)=false:=by simp[hz]
     have Hfin:=hd_ (kz_ H.out.ok Ht.out hz)
     have hbl:blen (atw l k)≤32:=blen_le.2 (bk_ H.out.ok k)
     clear hz
     go_wp2_with fail
     refine (kl_ _ _ hx).mono ?_
     rintro e w' ⟨rfl,rfl⟩
     generalize blen (atw l k)=y at *
     go_wp2
     go_ret
     exact⟨d2_ (by rw[Hfin.out];omega),rfl⟩
theorem pn_(a:OA_)(n cap:Nat)(l:List Nat)(i:Nat)(w:World)(h:Wd w a n cap l)(hi:i≤9223372036854775807) :
 Calls Tryz.prog 158 #[.slice a n cap,.int .i64 (i:Int)] w fun e w'=>e=.returned (.bool ((val l).testBit i))∧w=w':=by
 obtain⟨hb1,hb2⟩:=h.bound
 have H:=hd_ h
 clear h
 by_cases hlt:i / 32 < n
 ·obtain⟨b,off,rfl,hc⟩:=H.out.at (by omega)
  have hck:=hc (i / 32) hlt
  have hx:=bk_ H.out.ok (i / 32)
  clear hc
  have Hfin:Hid ((val l).testBit i=decide (atw l (i / 32) / 2 ^ (i % 32) % 2=1)):=hd_ (low_bit l H.out.ok i)
  obtain⟨x,hxx⟩:∃x,x=atw l (i / 32):=⟨_,rfl⟩
  rw[←hxx] at hck hx Hfin
  clear hxx
  go_enter Tryz.func158,Tryz.ntmps158
  go_wp2
  go_loop [5,6] (fun xv kv=>∃k y:Nat,k≤i % 32∧kv=.int .i64 (k:Int)∧xv=.int .u32 (y:Int)∧y < 4294967296∧Hid (y=x / 2 ^ k)) (fun _ kv=>32 - (intOf kv).toNat)
  case atStart=>exact⟨0,x,by omega,rfl,rfl,hx,hd_ (by simp)⟩
  case round=>
   obtain⟨k,y,hk,rfl,rfl,hy,Hy⟩:=hrel
   by_cases hkr:k < i % 32
   ·have hki:(k:Int) < (i:Int) % 32:=by omega
    go_wp2
    go_round
    case rel=>exact⟨k+1,y / 2,by omega,by go_num,by go_num,by omega,hd_ (by rw[Hy.out,Nat.pow_succ,Nat.div_div_eq_div_mul])⟩
    case measure=>simp[intOf];omega
   ·have hki:(i:Int) % 32≤(k:Int):=by omega
    have Hk:Hid (k=i % 32):=hd_ (by omega)
    clear hkr
    go_wp2
    go_ret
    exact⟨fm_ (by
     rw[Hfin.out,←Hk.out,←Hy.out,Bool.eq_iff_iff,beq_iff_eq,decide_eq_true_eq];omega),rfl⟩
 ·have Hv:Hid ((val l).testBit i=false):=hd_ (by rw[val_bit H.out.ok,h8_ (by have:=H.out.len;omega)];simp)
  go_enter Tryz.func158,Tryz.ntmps158
  go_wp2
  go_ret
  exact⟨fm_ Hv.out.symm,rfl⟩
theorem ref03_len(a:OA_)(n cap:Nat)(l:List Nat)(w:World)(h:Wd w a n cap l)(hn:n≤17592183947264) :
 Calls Tryz.prog 138 #[.slice a n cap] w fun e w'=>e=.returned (.int .i64 ((blen (val l):Nat):Int))∧w=w':=by
 obtain⟨hb1,hb2⟩:=h.bound
 have H:=hd_ h
 clear h
 go_enter Tryz.func138,Tryz.ntmps138
 go_wp2
 go_loop [3] (fun kv=>∃k:Nat,k≤32 * n∧kv=.int .i64 (k:Int)∧Hid (val l < 2 ^ k)) (fun kv=>(intOf kv).toNat)
 case atStart=>exact⟨32 * n,by omega,by go_num,hd_ (by rw[←ih_,←H.out.len];exact d7_ H.out.ok)⟩
 case round=>
  obtain⟨k,hk,rfl,Hv⟩:=hrel
  cases k with
  | zero=>
    have Hfin:Hid (blen (val l)=0):=hd_ (by have:=blen_le.2 Hv.out;omega)
    go_wp2
    go_ret
    exact⟨d2_ (by rw[Hfin.out];rfl),rfl⟩
  | succ p=>
    go_wp2_with fail
    refine (pn_ _ _ _ _ p _ H.out (by omega)).mono ?_
    rintro e w' ⟨rfl,rfl⟩
    cases hb:(val l).testBit p with
    | true=>
      have Hfin:Hid (blen (val l)=p+1):=hd_ (pi_ Hv.out (.inr (by rw[Nat.add_sub_cancel];exact Nat.ge_two_pow_of_testBit hb)))
      clear hb
      go_wp2
      go_ret
      exact⟨d2_ (by rw[Hfin.out];omega),rfl⟩
    | false=>
      have Hlt:Hid (val l < 2 ^ p):=hd_ (lt_of_bit Hv.out hb)
      clear hb
      go_wp2
      go_round
      case rel=>exact⟨p,by omega,by go_num,Hlt⟩
      case measure=>simp[intOf]
def hu_ (A B:Nat) (Q R:List Nat) (k:Nat):Prop:=A / 2 ^ k=val Q * B+val R∧val R < B
theorem vp_{A B n m:Nat}(hB:0 < B):hu_ A B (List.replicate n 0) (List.replicate m 0) (blen A):=by
 refine ⟨?_,by rw[fc_];exact hB⟩
 rw[fc_,fc_,Nat.div_eq_of_lt (ka_ A)]
 simp
theorem qr_(A k:Nat):A / 2 ^ k=2 * (A / 2 ^ (k+1))+(if A.testBit k=true then 1 else 0):=by
 have h1:A / 2 ^ (k+1)=A / 2 ^ k / 2:=by rw[Nat.pow_succ,Nat.div_div_eq_div_mul]
 have h2:A.testBit k=decide (A / 2 ^ k % 2=1):=Nat.testBit_eq_decide_div_mod_eq
 rw[h1,h2]
 by_cases h:A / 2 ^ k % 2=1
 ·rw[decide_eq_true h,if_pos rfl];omega
 ·rw[decide_eq_false h,if_neg (by simp)];omega
theorem bits_rest{A B m:Nat}{Q R R2:List Nat}{k z c0:Nat}(h:hu_ A B Q R (k+1))(hB:B < 4294967296 ^ m)(h2:val R2+4294967296 ^ (m+1) * z=2 * val R+c0)(hc:c0≤1):val R2=2 * val R+c0:=by
 have h3:=h.2
 rw[ca_] at h2
 rcases Nat.eq_zero_or_pos z with h0 | h0
 ·subst h0;omega
 ·have h4:4294967296 * 4294967296 ^ m * 1≤4294967296 * 4294967296 ^ m * z:=Nat.mul_le_mul_left _ h0
  generalize 4294967296 * 4294967296 ^ m * z=a1 at *
  generalize 4294967296 ^ m=a2 at *
  omega
theorem bits_quot{A B n:Nat}{Q R Q2:List Nat}{k z:Nat}(h:hu_ A B Q R (k+1))(hA:A < 4294967296 ^ n)(h2:val Q2+4294967296 ^ n * z=2 * val Q+0):val Q2=2 * val Q:=by
 have h3:=h.1
 have h4:=h.2
 have h5:2 * (A / 2 ^ (k+1))≤A:=by
  have h6:=Nat.div_mul_le_self A (2 ^ (k+1))
  rw[Nat.pow_succ] at *
  have h7:=Nat.two_pow_pos k
  have h8:A / (2 ^ k * 2) * 2≤A / (2 ^ k * 2) * (2 ^ k * 2):=Nat.mul_le_mul_left _ (by omega)
  omega
 have h9:val Q * 1≤val Q * B:=Nat.mul_le_mul_left _ (by omega)
 rcases Nat.eq_zero_or_pos z with h0 | h0
 ·subst h0;omega
 ·have h10:4294967296 ^ n * 1≤4294967296 ^ n * z:=Nat.mul_le_mul_left _ h0
  generalize 4294967296 ^ n * z=a1 at *
  generalize 4294967296 ^ n=a2 at *
  generalize val Q * B=a3 at *
  omega
theorem bits_no{A B:Nat}{Q R Q2 R2:List Nat}{k c0:Nat}(h:hu_ A B Q R (k+1))(hc:c0=if A.testBit k=true then 1 else 0)(hq:val Q2=2 * val Q)(hr:val R2=2 * val R+c0)(hlt:val R2 < B):hu_ A B Q2 R2 k:=by
 refine ⟨?_,hlt⟩
 rw[qr_,←hc,h.1,hq,hr,Nat.mul_add,Nat.mul_assoc]
 omega
theorem bits_yes{A B:Nat}{Q R Q2 R2 R3:List Nat}{k c0:Nat}(h:hu_ A B Q R (k+1))(hc:c0=if A.testBit k=true then 1 else 0)(hc1:c0≤1)(hq:val Q2=2 * val Q)(hr:val R2=2 * val R+c0)(hge:B≤val R2)(h3:val R3=val R2 - B)(hl:0 < Q2.length)(ho:okw Q2) :
 hu_ A B (Q2.set 0 (atw Q2 0+1)) R3 k∧atw Q2 0+1 < 4294967296:=by
 have e1:=f6_ Q2 0 (atw Q2 0+1) hl
 rw[Nat.pow_zero,Nat.one_mul,Nat.one_mul] at e1
 have e2:val (Q2.set 0 (atw Q2 0+1))=2 * val Q+1:=by omega
 have h4:=h.2
 refine ⟨⟨?_,by omega⟩,?_⟩
 ·rw[qr_,←hc,h.1,e2,Nat.mul_add,Nat.add_mul,Nat.mul_assoc,h3,hr]
  omega
 ·have h5:=b4_ Q2 0
  rw[ei_,hq] at h5
  have h6:=bk_ ho 0
  omega
theorem s5_{A B:Nat}{Q R:List Nat}(h:hu_ A B Q R 0):val Q=A / B∧val R=A % B:=by
 have h1:=h.1
 have h2:=h.2
 rw[Nat.pow_zero,Nat.div_one] at h1
 rw[h1,Nat.mul_comm,Nat.mul_add_div (by omega),Nat.mul_add_mod,Nat.div_eq_of_lt h2,Nat.mod_eq_of_lt h2]
 omega
def Div5Post (p q:Nat) (w:World) (e:Ending) (w':World):Prop:=
 ∃(a:OA_) (n cap:Nat) (b:OA_) (m cap':Nat),e=.returned (.tuple #[.slice a n cap,.slice b m cap'])∧Wd w' a n cap (dg p)∧Hid (w'.ownsRow w.heap.size 81 1 (.slice b m cap') m (b7_ (dg q)))∧Below w.heap.size w w'
theorem ref05_div(a:OA_)(n cap:Nat)(la:List Nat)(b:OA_)(m cap':Nat)(lb:List Nat)(w:World)(ha:Wd w a n cap la)(hb:Wd w b m cap' lb)(hn:n≤524288000000)(hm:m≤524288000000)(h0:Hid (val lb≠0)) :
 Calls Tryz.prog 105 #[.slice a n cap,.slice b m cap'] w (Div5Post (val la / val lb) (val la % val lb) w):=by
 obtain⟨i0,hi,hz0,hz1,hz2⟩:=info_parts h2_
 have Ha:=hd_ ha
 have Hb:=hd_ hb
 have hbl:blen (val la)≤32 * n:=blen_le.2 (by rw[←ih_,←ha.len];exact d7_ ha.ok)
 clear ha hb
 obtain⟨M,hM⟩:∃M:Nat,(m:Int)+1=(M:Int):=⟨m+1,by omega⟩
 have HM:Hid (M=m+1):=hd_ (by omega)
 have hMb:M≤524288000001:=by omega
 go_enter Tryz.func105,Tryz.ntmps105
 go_wp2_with (first
  | (at_make;refine b6_ _ rfl _ _ 25 rfl w.heap.size 81 i0 (.int .u32 0) Tryz.underlying25 hi hz0 hz1 rfl .i64 .i64 _ _ n n rfl rfl rfl rfl (Nat.le_refl _) (by rw[hz2];omega) (by unfold maxLen;omega) (Nat.le_refl _) ?_;intro w1 hown1 hgrow1;rw[dt_] at hown1;have HQ1:Hid (Own w1 w.heap.size w.heap.size n n (List.replicate n 0)):=hd_ ⟨hown1,fg_ n⟩;have hB1:Below w.heap.size w w1:=(Below.refl _ _).grown hgrow1 (Nat.le_refl _) (fun k hk=>by cases hk);clear hown1 hgrow1)
  | (at_make;refine b6_ _ rfl _ _ 25 rfl w.heap.size 81 i0 (.int .u32 0) Tryz.underlying25 hi hz0 hz1 rfl .i64 .i64 _ _ M M rfl rfl rfl rfl (Nat.le_refl _) (by rw[hz2];omega) (by unfold maxLen;omega) hB1.size ?_;intro w2 hown2 hgrow2;rw[dt_] at hown2;have HR2:Hid (Own w2 w.heap.size w1.heap.size M M (List.replicate M 0)):=hd_ ⟨hown2,fg_ M⟩;have hB2:Below w.heap.size w w2:=hB1.grown hgrow2 hB1.size (fun k hk=>by cases hk);have HQ2:Hid (Own w2 w.heap.size w.heap.size n n (List.replicate n 0)):=hd_ (HQ1.out.stay hgrow2);clear hown2 hgrow2))
 have hne:w.heap.size≠w1.heap.size:=by have:=HQ1.out.base;omega
 generalize hgq:w.heap.size=base at *
 have hbq:=HQ2.out.base
 have hbr:=HR2.out.base
 have hBw:=hd_ hB2
 generalize w1.heap.size=gr at *
 clear HQ1 hB1 hB2
 obtain⟨B,HB⟩:∃B,Hid (B=val lb):=⟨_,rfl⟩
 obtain⟨A,HA⟩:∃A,Hid (A=val la):=⟨_,rfl⟩
 rw[←HB.out] at h0 ⊢
 rw[←HA.out] at hbl ⊢
 have HAn:Hid (A < 4294967296 ^ n):=hd_ (by rw[HA.out,←Ha.out.len];exact d7_ Ha.out.ok)
 have HBm:Hid (B < 4294967296 ^ m):=hd_ (by rw[HB.out,←Hb.out.len];exact d7_ Hb.out.ok)
 have HAb:Hid (∀k,A.testBit k=decide (atw la (k / 32) / 2 ^ (k % 32) % 2=1)):=hd_ (fun k=>by rw[HA.out];exact low_bit la Ha.out.ok k)
 have HS:=hd_ (vp_ (A:=A) (n:=n) (m:=M) (Nat.pos_of_ne_zero h0.out))
 rw[←hgq] at *
 refine (ref03_len _ _ _ _ _ (Ha.out.later hBw.out) (by omega)).mono ?_
 rintro e w' ⟨rfl,rfl⟩
 rw[←HA.out]
 generalize blen A=y at *
 go_wp2
 go_loopw [8] (fun iv wr=>∃(k:Nat) (Q R:List Nat),k≤y∧iv=.int .i64 ((k:Int) - 1)∧Hid (hu_ A B Q R k)∧Hid (Own wr w.heap.size w.heap.size n n Q)∧Hid (Own wr w.heap.size gr M M R)∧Below w.heap.size w wr) (fun iv _=>(intOf iv+1).toNat)
 case atStart=>exact⟨y,List.replicate n 0,List.replicate M 0,by omega,by go_num,HS,HQ2,HR2,hBw.out⟩
 case round=>
  clear HQ2 HR2 hBw HS
  obtain⟨k,Q,R,hk,rfl,HD,HQ,HR,hBr⟩:=hrel
  cases k with
  | zero=>
    have Hq:Hid (val Q=A / B):=hd_ (s5_ HD.out).1
    have Hr:Hid (val R=A % B):=hd_ (s5_ HD.out).2
    have HRw:=hd_ HR.out.wd
    clear HD
    go_wp2_with fail
    refine (dp_ _ _ _ _ _ HQ.out.wd (by omega)).mono ?_
    rintro e w5 ⟨a5,n5,c5,rfl,h5,b5⟩
    rw[Hq.out] at h5
    have H5:=hd_ h5
    have HR5:=HRw.l_ b5
    have hb5:=ab_ hBr b5
    clear h5 HRw
    go_wp2_with fail
    refine (e7_ _ _ _ _ _ HR5.out (by omega)).mono ?_
    rintro e w6 ⟨a6,n6,c6,rfl,h6,b6⟩
    rw[Hr.out] at h6
    have H6:=hd_ (pl_ h6 hb5.size)
    have H5b:=H5.l_ b6
    clear h6
    go_wp2
    go_ret2
    exact⟨a5,n5,c5,a6,n6,c6,rfl,by rw[←HA.out,←HB.out];exact H5b.out,by rw[←HA.out,←HB.out];exact H6,ab_ hb5 b6⟩
  | succ k=>
    have e1:((k+1:Nat):Int) - 1=(k:Int):=by omega
    rw[e1]
    clear e1
    obtain⟨q,hq⟩:∃q:Nat,(k:Int) / 32=(q:Int):=⟨k / 32,by omega⟩
    obtain⟨r,hr⟩:∃r:Nat,(k:Int) % 32=(r:Int):=⟨k % 32,by omega⟩
    have Hqr:Hid (k / 32=q∧k % 32=r):=hd_ (by omega)
    have hr31:r < 32:=by omega
    obtain⟨ba,oa,rfl,hca⟩:=(Ha.out.later hBr).at (by omega)
    have hcq:=hca q (by omega)
    have hxw:=bk_ Ha.out.ok q
    have hbit:=HAb.out k
    rw[Hqr.out.1,Hqr.out.2] at hbit
    obtain⟨x,hx⟩:∃x,x=atw la q:=⟨_,rfl⟩
    rw[←hx] at hcq hxw hbit
    obtain⟨P,HP,hP⟩:∃P:Nat,Hid (P=2 ^ r)∧(2:Int) ^ r=(P:Int):=⟨2 ^ r,rfl,by simp⟩
    have hPb:P < 4294967296:=by rw[HP.out];exact Nat.lt_of_le_of_lt (Nat.pow_le_pow_right (by decide) (show r≤31 by omega)) (by decide)
    have hP0:0 < P:=by rw[HP.out];exact Nat.two_pow_pos r
    rw[←HP.out] at hbit
    obtain⟨z,hz⟩:∃z:Nat,(x:Int) / (P:Int)=(z:Int):=⟨x / P,by rw[Int.natCast_ediv]⟩
    have Hz:Hid (x / P=z):=hd_ (by rw[←Int.natCast_ediv] at hz;omega)
    rw[Hz.out] at hbit
    obtain⟨tb,htb⟩:∃tb,((z:Int) % 2 == 1)=tb:=⟨_,rfl⟩
    have HT:Hid (A.testBit k=tb):=hd_ (by rw[hbit,←htb,Bool.eq_iff_iff,beq_iff_eq,decide_eq_true_eq];omega)
    have hqi:(q:Int) < (n:Int):=by omega
    have hzw:z < 4294967296:=by rw[←Hz.out];exact Nat.lt_of_le_of_lt (Nat.div_le_self _ _) hxw
    obtain⟨c0,hc0⟩:∃c0:Nat,c0=if tb=true then 1 else 0:=⟨_,rfl⟩
    have Hc0:=hd_ hc0
    have hc1:c0≤1:=by rw[hc0];split <;> omega
    have HQd:Hid (Own wr.drew w.heap.size w.heap.size n n Q):=hd_ HQ.out
    have HRd:Hid (Own wr.drew w.heap.size gr M M R):=hd_ HR.out
    have HBd:Hid (Below w.heap.size w wr.drew):=hd_ hBr.drew
    have hw1:IntKind.i64.wrap (q:Int)=(q:Int):=by rw[IntKind.wrap_i64];omega
    have hw2:IntKind.i64.wrap (r:Int)=(r:Int):=by rw[IntKind.wrap_i64];omega
    have hw3:IntKind.u32.wrap (P:Int)=(P:Int):=by rw[IntKind.wrap_u32];omega
    have hw4:IntKind.u32.wrap (z:Int)=(z:Int):=by rw[IntKind.wrap_u32];omega
    have hw5:IntKind.u32.wrap ((z:Int) % 2)=(z:Int) % 2:=by rw[IntKind.wrap_u32];omega
    have hP1:¬P=0:=by omega
    have hw6:(k:Int).tmod 32=(r:Int):=by rw[Int.tmod_eq_emod_of_nonneg (by omega)];exact hr
    have hw7:(x:Int).tdiv (P:Int)=(z:Int):=by rw[Int.tdiv_eq_ediv_of_nonneg (by omega)];exact hz
    have hw8:(z:Int).tmod 2=(z:Int) % 2:=Int.tmod_eq_emod_of_nonneg (by omega)
    clear hca hbit hx hc0
    go_wp2_with fail
    refine wp_region_still_tail 12 (by kernel_rfl) (by kernel_rfl) ?_
    simp only[List.take_succ_cons,List.take_zero,List.drop_succ_cons,List.drop_zero]
    repeat still_step
    refine wpStill_nil ?_
    change wpList _ _ _ _ _ wr.drew
    generalize wr.drew=wd at *
    clear hBr HQ HR hw1 hw2 hw3 hw4 hw5 hw6 hw7 hw8
    go_wp2_with fail
    refine (kk_ _ _ _ _ _ tb R _ HRd.out (by omega) Hc0.out).mono ?_
    rintro e w3 ⟨R2,z2,rfl,HR3,hG3,HV3⟩
    have hB3:=hd_ (cf_ HBd.out hG3 hbr.1)
    have HQ3:=hd_ (HQd.out.other hG3 hne)
    have HVr:Hid (val R2=2 * val R+c0):=hd_ (bits_rest HD.out HBm.out (by have:=HV3.out;rwa [HM.out] at this) hc1)
    clear hG3 HRd HQd HBd HV3
    go_wp2_with fail
    refine (kk_ _ _ _ _ 0 false Q _ HQ3.out (by omega) rfl).mono ?_
    rintro e w4 ⟨Q2,z3,rfl,HQ4,hG4,HV4⟩
    have hB4:=hd_ (cf_ hB3.out hG4 hbq.1)
    have HR4:=hd_ (HR3.out.other hG4 (Ne.symm hne))
    have HVq:Hid (val Q2=2 * val Q):=hd_ (bits_quot HD.out HAn.out HV4.out)
    clear hG4 HV4 HQ3 HR3 hB3
    go_wp2_with fail
    refine (mb_ _ _ _ _ _ _ _ _ _ HR4.out.wd (Hb.out.later hB4.out) (by omega) (by omega)).mono ?_
    rintro e w5 ⟨rfl,rfl⟩
    rw[←HB.out]
    by_cases hlt:val R2 < B
    ·have hc:cmpI (val R2) B < 0:=by rw[f2_ hlt];omega
     have HDn:Hid (hu_ A B Q2 R2 k):=hd_ (bits_no HD.out (by rw[HT.out];exact Hc0.out) HVq.out HVr.out hlt)
     clear hlt
     generalize cmpI (val R2) B=c at *
     go_wp2
     go_roundw
     case rel=>exact⟨k,Q2,R2,by omega,by go_num,HDn,HQ4,HR4,hB4.out⟩
     case measure=>simp[intOf]
    ·have hc:¬cmpI (val R2) B < 0:=by unfold cmpI;split <;> (try split) <;> omega
     have Hge:Hid (val lb≤val R2):=hd_ (by rw[←HB.out];omega)
     have Hge2:Hid (B≤val R2):=hd_ (by omega)
     clear hlt
     generalize cmpI (val R2) B=c at *
     go_wp2_with fail
     refine (up_ w _ _ _ _ R2 _ _ _ lb HR4.out hB4.out Hb.out (by omega) (by omega) Hge).mono ?_
     rintro e w6 ⟨R3,rfl,HR6,hG6,HV6⟩
     have HB6:=hd_ (cf_ hB4.out hG6 hbr.1)
     have HQ6:=hd_ (HQ4.out.other hG6 hne)
     have HDn:=hd_ (bits_yes HD.out (by rw[HT.out];exact Hc0.out) hc1 HVq.out HVr.out Hge2.out (by rw[HV6.out,←HB.out]) (by rw[HQ4.out.len];omega) HQ4.out.2)
     have hcell:=HQ6.out.cell (k:=0) (by omega)
     have hfro:=HQ6.out.1.frozenAt 0
     have huw:=HDn.out.2
     obtain⟨u,huu⟩:∃u,u=atw Q2 0:=⟨_,rfl⟩
     rw[←huu] at hcell huw
     have HDn2:Hid (hu_ A B (Q2.set 0 (u+1)) R3 k):=hd_ (by rw[huu];exact HDn.out.1)
     have HQ7:=hd_ (HQ6.out.set 0 (u+1) huw)
     have HR7:=hd_ (HR6.out.other (bv_ w6 w.heap.size 0 (.int .u32 ((u+1:Nat):Int))) (Ne.symm hne))
     have HB7:=hd_ (HB6.out.setCell (p:=⟨w.heap.size,0,none⟩) hbq.1 (.int .u32 ((u+1:Nat):Int)))
     clear huu HDn hG6 HQ4 HR4 hB4 HB6 HR6 HQ6
     go_wp2
     go_roundw
     case rel=>exact⟨k,Q2.set 0 (u+1),R3,by omega,by go_num,HDn2,HQ7,HR7,HB7.out⟩
     case measure=>simp[intOf]
theorem r5_(m:Nat)(w:World)(h0:0 < m)(h1:m < 4294967296) :
 Calls Tryz.prog 136 #[.int .u32 (m:Int)] w fun e w'=>e=.returned (.int .i64 ((tz m:Nat):Int))∧w=w':=by
 have ht:(((m:Nat):Int) == 0)=false:=by simp;omega
 have hz:tz m < 32:=tz_lt (by omega) h1
 go_enter Tryz.func136,Tryz.ntmps136
 go_wp2
 go_loop [0,3] (fun x n=>∃a g:Nat,0 < a∧a < 4294967296∧g≤32∧Hid (g+tz a=tz m)∧x=.int .u32 a∧n=.int .i64 g) (fun x _=>(intOf x).toNat)
 case atStart=>exact⟨m,0,h0,h1,by omega,hd_ (by omega),rfl,rfl⟩
 case round=>
  obtain⟨a,g,ha,ha1,hg,Hl,rfl,rfl⟩:=hrel
  by_cases he:a % 2=0
  ·have hb:(((a:Nat):Int) % 2 == 0)=true:=by rw[beq_iff_eq];omega
   have He:=hd_ he
   have Hs:=hd_ (rm_ (n:=a) (by omega) he)
   have hg2:g < 32:=by have:=Hs.out;have:=Hl.out;omega
   clear he
   go_wp2
   go_round
   case rel=>exact⟨a / 2,g+1,by have:=He.out;omega,by omega,by omega,hd_ (by have:=Hs.out;have:=Hl.out;omega),by go_num,by go_num⟩
   case measure=>simp[intOf];omega
  ·have hb:(((a:Nat):Int) % 2 == 0)=false:=by rw[beq_eq_false_iff_ne];omega
   have Hs:=hd_ (tz_odd (n:=a) (by omega))
   clear he
   go_wp2
   go_ret
   exact⟨d2_ (by have:=Hl.out;have:=Hs.out;omega),rfl⟩
def LessWin (base g off n:Nat) (P D:List Nat) (w:World) (e:Ending) (w':World):Prop:=
 ∃(P':List Nat),e=.returned (.tuple #[])∧Hid (Win w' base g off n P')∧w.grownBy w' (some g)∧Hid (val P'=val P - val D)
theorem ie_(base:Nat)(w:World)(g off n c:Nat)(P:List Nat)(d:OA_)(m dcap:Nat)(D:List Nat)(hO:Win w base g off n P)(hd:Wd w d m dcap D)(hne:Hid (∀ad:Addr,d=some ad→some ad.block≠some g))(hN:n≤2097152000000)(hm:m≤n)(hle:Hid (val D≤val P)) :
 Calls Tryz.prog 103 #[.slice (some ⟨g,off,none⟩) n c,.slice d m dcap] w (LessWin base g off n P D w):=by
 have HO0:=hd_ hO
 have HPo:=hd_ hO.ok
 have HD:=hd_ hd
 clear hO hd
 go_enter Tryz.func103,Tryz.ntmps103
 go_wp2
 go_loopw [4,5] (fun sv kv wr=>∃(k s:Nat) (R:List Nat),k≤n∧kv=.int .i64 (k:Int)∧sv=.int .u64 (s:Int)∧s≤1∧Hid (nn_ P D R k s)∧Hid (Win wr base g off n R)∧w.grownBy wr (some g)) (fun _ kv _=>n - (intOf kv).toNat)
 case atStart=>exact⟨0,0,P,by omega,rfl,rfl,by omega,hd_ (nv_ _ _),HO0,e2_ _ _⟩
 case round=>
  obtain⟨k,s,R,hk,rfl,rfl,hs,HL,HO,hG⟩:=hrel
  by_cases hlt:k < n
  ·have hcell:=HO.out.cell (k:=k) hlt
   rw[HL.out.2 k (Nat.le_refl _)] at hcell
   have hfro:=HO.out.frozen k
   have huw:=bk_ HPo.out k
   obtain⟨u,huu⟩:∃u,u=atw P k:=⟨_,rfl⟩
   rw[←huu] at huw hcell
   have Hu:=hd_ huu
   have hki:(k:Int) < (n:Int):=by omega
   clear huu
   go_wp2_with fail
   refine (c9_ _ _ _ k _ _ (HD.out.kept hG hne.out) (by omega)).mono ?_
   rintro e w' ⟨rfl,rfl⟩
   have hdw:=bk_ HD.out.ok k
   obtain⟨b,hbb⟩:∃b,b=atw D k:=⟨_,rfl⟩
   rw[←hbb] at hdw ⊢
   have Hb:=hd_ hbb
   clear hbb
   obtain⟨y,hy⟩:∃y:Nat,(b:Int)+(s:Int)=(y:Int):=⟨b+s,by omega⟩
   have Hy:Hid (y=b+s):=hd_ (by omega)
   have hyb:y≤4294967296:=by omega
   by_cases hxy:u < y
   ·obtain⟨x,hx⟩:∃x:Nat,(u:Int)+4294967296=(x:Int):=⟨u+4294967296,by omega⟩
    obtain⟨r,hr⟩:∃r:Nat,(x:Int) - (y:Int)=(r:Int):=⟨x - y,by omega⟩
    have hrw:r < 4294967296:=by omega
    have HS:Hid (u+4294967296 * 1=b+s+r):=hd_ (by have:=Hy.out;omega)
    have HOs:=hd_ (HO.out.set (k:=k) hrw)
    have hGs:=hd_ (cb_ hG (bv_ _ g (off+k) (.int .u32 (r:Int))))
    go_wp2
    go_roundw
    case rel=>exact⟨k+1,1,R.set k r,by omega,by go_num,rfl,by omega,hd_ (ja_ HL.out (by rw[HO.out.len];omega) (by rw[←Hu.out,←Hb.out];exact HS.out)),HOs,hGs.out⟩
    case measure=>simp[intOf];omega
   ·obtain⟨r,hr⟩:∃r:Nat,(u:Int) - (y:Int)=(r:Int):=⟨u - y,by omega⟩
    have hrw:r < 4294967296:=by omega
    have HS:Hid (u+4294967296 * 0=b+s+r):=hd_ (by have:=Hy.out;omega)
    have HOs:=hd_ (HO.out.set (k:=k) hrw)
    have hGs:=hd_ (cb_ hG (bv_ _ g (off+k) (.int .u32 (r:Int))))
    go_wp2
    go_roundw
    case rel=>exact⟨k+1,0,R.set k r,by omega,by go_num,rfl,by omega,hd_ (ja_ HL.out (by rw[HO.out.len];omega) (by rw[←Hu.out,←Hb.out];exact HS.out)),HOs,hGs.out⟩
    case measure=>simp[intOf];omega
  ·obtain rfl:k=n:=by omega
   have Hfin:Hid (val R=val P - val D):=hd_ (t8_ HL.out HO.out.ok HO.out.len (by rw[HD.out.len];exact hm) hle.out)
   go_wp2
   go_end0
   exact⟨R,rfl,HO,hG,Hfin⟩
def DownPost (base g off c v:Nat) (w:World) (e:Ending) (w':World):Prop:=
 ∃n',e=.returned (.slice (some ⟨g,off,none⟩) n' c)∧n'≤c∧Hid (Win w' base g off n' (dg v))∧w.grownBy w' (some g)
theorem v4_(base:Nat)(w:World)(g off n c s:Nat)(L:List Nat)(hO:Win w base g off n L)(hs:s≤31)(hn:n≤2097152000000)(hc:n≤c)(hc2:c≤9223372036854775807) :
 Calls Tryz.prog 137 #[.slice (some ⟨g,off,none⟩) n c,.int .i64 (s:Int)] w (DownPost base g off c (val L / 2 ^ s) w):=by
 have HO0:=hd_ hO
 have HLo:=hd_ hO.ok
 have HLl:=hd_ hO.len
 clear hO
 go_enter Tryz.func137,Tryz.ntmps137
 go_wp2
 go_loopw [5] (fun kv wr=>∃(k:Nat) (R:List Nat),k≤n∧kv=.int .i64 (k:Int)∧Hid (j0_ L R s k)∧Hid (Win wr base g off n R)∧w.grownBy wr (some g)) (fun kv _=>n - (intOf kv).toNat)
 case atStart=>exact⟨0,L,by omega,rfl,hd_ (ry_ _ _),HO0,e2_ _ _⟩
 case round=>
  obtain⟨k,R,hk,rfl,HS,HO,hG⟩:=hrel
  by_cases hlt:k < n
  ·have hcell:=HO.out.cell (k:=k) hlt
   rw[HS.out.2 k (Nat.le_refl _)] at hcell
   have hfro:=HO.out.frozen k
   have huw:=bk_ HLo.out k
   have hxw:=bk_ HLo.out (k+1)
   obtain⟨p,hp⟩:∃p:Nat,(k:Int)+1=(p:Int):=⟨k+1,by omega⟩
   have Hp:Hid (p=k+1):=hd_ (by omega)
   rw[←Hp.out] at hxw
   obtain⟨u,huu⟩:∃u,u=atw L k:=⟨_,rfl⟩
   obtain⟨x,hxx⟩:∃x,x=atw L p:=⟨_,rfl⟩
   rw[←huu] at huw hcell
   rw[←hxx] at hxw
   have Hu:=hd_ huu
   have Hx:=hd_ hxx
   obtain⟨t,ht⟩:∃t:Nat,(x:Int) * 4294967296+(u:Int)=(t:Int):=⟨x * 4294967296+u,by omega⟩
   have Ht:Hid (t=x * 4294967296+u):=hd_ (by omega)
   obtain⟨z,hz⟩:∃z:Nat,(t:Int) / 2 ^ s=(z:Int):=⟨t / 2 ^ s,by rw[Int.natCast_ediv,Int.natCast_pow];rfl⟩
   have Hz:Hid (z=t / 2 ^ s):=hd_ (by have:=fx_ t s;omega)
   obtain⟨r,hr⟩:∃r:Nat,(z:Int) % 4294967296=(r:Int):=⟨z % 4294967296,by omega⟩
   have Hr:Hid (r=z % 4294967296):=hd_ (by omega)
   have hrw:r < 4294967296:=by omega
   have htw:t < 18446744073709551616:=by omega
   have hzt:z≤t:=by rw[Hz.out];exact Nat.div_le_self _ _
   have hki:(k:Int) < (n:Int):=by omega
   have HOs:=hd_ (HO.out.set (k:=k) hrw)
   have hGs:=hd_ (cb_ hG (bv_ _ g (off+k) (.int .u32 (r:Int))))
   have HSn:Hid (j0_ L (R.set k r) s (k+1)):=hd_ (u7_ HS.out HLo.out (by omega) (by rw[HO.out.len];omega) (by
    rw[Hr.out,Hz.out,Ht.out,Hx.out,Hu.out,Hp.out]))
   clear huu
   by_cases hlast:p < n
   ·have hcell2:=HO.out.cell (k:=p) hlast
    rw[HS.out.2 p (by omega),←Hx.out] at hcell2
    have hpi:(p:Int) < (n:Int):=by omega
    clear hxx
    go_wp2
    go_roundw
    case rel=>exact⟨p,R.set k r,by omega,by go_num,by rw[Hp.out];exact HSn,HOs,hGs.out⟩
    case measure=>simp[intOf];omega
   ·have hx0:x=0:=by rw[hxx];exact h8_ (by rw[HLl.out];omega)
    have hpi:(n:Int)≤(p:Int):=by omega
    subst hx0
    have htu:t=u:=by omega
    subst htu
    have hrz:r=z:=by omega
    subst hrz
    clear hxx ht hr
    go_wp2
    go_roundw
    case rel=>exact⟨p,R.set k r,by omega,by go_num,by rw[Hp.out];exact HSn,HOs,hGs.out⟩
    case measure=>simp[intOf];omega
  ·obtain rfl:k=n:=by omega
   have Hv:=hd_ (shift_end HS.out HLo.out HLl.out HO.out.len)
   clear HS hlt
   go_wp2
   go_loop [0] (fun sv=>∃m:Nat,m≤k∧sv=.slice (some ⟨g,off,none⟩) m c∧Hid (top R m=0)) (fun sv=>ku_ sv)
   case atStart=>exact⟨k,by omega,rfl,hd_ (fk_ (by rw[HO.out.len];omega))⟩
   case round=>
    obtain⟨m,hm,rfl,Ht⟩:=hrel
    cases m with
    | zero=>
      have HW:=hd_ (HO.out.take (m:=0) (by omega))
      have Hfin:Hid (R.take 0=dg (val L / 2 ^ s)):=hd_ (by rw[←Hv.out];exact gm_ (by omega) HO.out.ok Ht.out (.inl rfl))
      go_wp2
      go_ret
      exact⟨0,rfl,by omega,hd_ (by rw[←Hfin.out];exact HW.out),hG⟩
    | succ m=>
      have hcell:=HO.out.cell (k:=m) (by omega)
      have hyw:=bk_ HO.out.ok m
      by_cases hz:atw R m=0
      ·rw[hz] at hcell
       have Ht2:Hid (top R m=0):=hd_ (by rw[b4_,hz,Ht.out])
       clear hz
       go_wp2
       go_round
       case rel=>exact⟨m,by omega,by go_num,Ht2⟩
       case measure=>simp[ku_]
      ·have hzb:(((atw R m:Nat):Int) == 0)=false:=by simp[hz]
       have HW:=hd_ (HO.out.take (m:=m+1) hm)
       have Hfin:Hid (R.take (m+1)=dg (val L / 2 ^ s)):=hd_ (by rw[←Hv.out];exact gm_ (by rw[HO.out.len];exact hm) HO.out.ok Ht.out (.inr (by simpa using hz)))
       clear hz
       go_wp2
       go_ret
       exact⟨m+1,rfl,by omega,hd_ (by rw[←Hfin.out];exact HW.out),hG⟩
def OddPost (base g v:Nat) (w:World) (e:Ending) (w':World):Prop:=
 ∃off n c,e=.returned (.tuple #[.slice (some ⟨g,off,none⟩) n c,.int .i64 ((tz v:Nat):Int)])∧n≤c∧c≤9223372036854775807∧Hid (Win w' base g off n (dg (oddp v)))∧w.grownBy w' (some g)
theorem jl_(base:Nat)(w:World)(g off n c:Nat)(L:List Nat)(hO:Win w base g off n L)(hn:n≤2097152000000)(hc:n≤c)(hc2:c≤9223372036854775807)(h0:Hid (val L≠0)) :
 Calls Tryz.prog 101 #[.slice (some ⟨g,off,none⟩) n c] w (OddPost base g (val L) w):=by
 have HO:=hd_ hO
 have HLo:=hd_ hO.ok
 have HLl:=hd_ hO.len
 clear hO
 go_enter Tryz.func101,Tryz.ntmps101
 go_wp2
 go_loop [0,4] (fun sv tv=>∃q m:Nat,q+m=n∧sv=.slice (some ⟨g,off+q,none⟩) m (c - q)∧tv=.int .i64 ((32 * q:Nat):Int)∧Hid (low L q=0)) (fun sv _=>ku_ sv)
 case atStart=>exact⟨0,n,by omega,rfl,rfl,hd_ (cc_ L)⟩
 case round=>
  obtain⟨q,m,hqm,rfl,rfl,Hl⟩:=hrel
  have hqn:q < n:=by rw[←HLl.out];exact tm_ Hl.out h0.out
  have hcell:=HO.out.cell (k:=q) hqn
  have hyw:=bk_ HLo.out q
  have hm0:0 < m:=by omega
  by_cases hz:atw L q=0
  ·rw[hz] at hcell
   have Hl2:=hd_ (r0_ Hl.out hz)
   have hq1:q+1 < n:=by rw[←HLl.out];exact tm_ Hl2.out h0.out
   obtain⟨m1,rfl⟩:∃m1,m=m1+1:=⟨m - 1,by omega⟩
   have hcq:¬(c - q=1):=by omega
   clear hz
   go_wp2
   go_round
   case rel=>exact⟨q+1,m1,by omega,by first | rfl | (congr 1;omega),by go_num,Hl2⟩
   case measure=>simp[ku_]
  ·have hzb:(((atw L q:Nat):Int) == 0)=false:=by simp[hz]
   have hy0:0 < atw L q:=by omega
   have Htz:=hd_ (tz_low HLo.out Hl.out hz)
   have htl:tz (atw L q) < 32:=tz_lt hz hyw
   have HW:Hid (Win w base g (off+q) m (L.drop q)):=hd_ (by have h1:=HO.out;rw[←hqm] at h1;exact h1.drop)
   clear hz
   generalize atw L q=y at *
   have Hsh:Hid (val (L.drop q) / 2 ^ tz y=oddp (val L)):=hd_ (by unfold oddp;rw[Htz.out];exact pw_ HLo.out q (tz y))
   go_wp2_with fail
   refine (r5_ y _ hy0 hyw).mono ?_
   rintro e w' ⟨rfl,rfl⟩
   generalize tz y=t at *
   go_wp2_with fail
   refine (v4_ base _ g (off+q) m (c - q) t (L.drop q) HW.out (by omega) (by omega) (by omega) (by omega)).mono ?_
   rintro e w1 ⟨n',rfl,hn',HW1,hG⟩
   rw[Hsh.out] at HW1
   go_wp2
   go_ret2
   exact⟨off+q,n',c - q,by rw[Htz.out];rfl,hn',by omega,HW1,hG⟩
theorem qm_(b off n c:Nat)(l:List Nat)(t:Nat)(w:World)(h:Wd w (some ⟨b,off,none⟩) n c l)(hn:n≤1048576000000)(ht:t≤10485760000000) :
 Calls Tryz.prog 104 #[.slice (some ⟨b,off,none⟩) n c,.int .i64 (t:Int)] w (Lst (dg (val l * 2 ^ t)) w):=by
 obtain⟨i0,hi,hz0,hz1,hz2⟩:=info_parts h2_
 have H:=hd_ h
 have Hl:=hd_ h.len
 obtain⟨q,hq⟩:∃q:Nat,(t:Int) / 32=(q:Int):=⟨t / 32,by omega⟩
 obtain⟨r,hr⟩:∃r:Nat,(t:Int) % 32=(r:Int):=⟨t % 32,by omega⟩
 have Hqr:Hid (t=32 * q+r):=hd_ (by omega)
 have hr31:r < 32:=by omega
 have hqb:q≤419430400000:=by omega
 obtain⟨P,HP,hP⟩:∃P:Nat,Hid (P=2 ^ r)∧(2:Int) ^ r=(P:Int):=⟨2 ^ r,rfl,by simp⟩
 have hPb:P < 4294967296:=by rw[HP.out];exact Nat.lt_of_le_of_lt (Nat.pow_le_pow_right (by decide) (show r≤31 by omega)) (by decide)
 clear h
 go_enter Tryz.func104,Tryz.ntmps104
 go_wp2_with (first
  | (at_make;refine b6_ _ rfl _ _ 25 rfl w.heap.size 81 i0 (.int .u32 0) Tryz.underlying25 hi hz0 hz1 rfl .i64 .i64 _ _ q q rfl rfl rfl rfl (Nat.le_refl _) (by rw[hz2];omega) (by unfold maxLen;omega) (Nat.le_refl _) ?_;intro w1 hown1 hgrow1;rw[dt_] at hown1;have hB1:Below w.heap.size w w1:=(Below.refl _ _).grown hgrow1 (Nat.le_refl _) (fun k hk=>by cases hk);have H1:=H.l_ hB1;clear hgrow1)
  | (at_builtin;refine wpList_append_own _ rfl _ _ 25 rfl w.heap.size 81 i0 (.int .u32 0) 1 4 Tryz.underlying25 hi hz0 hz1 hz2 rfl (by decide) _ q (b7_ (List.replicate q 0)) rfl hown1 ⟨b,off,none⟩ n c (b7_ l) rfl (by rw[bz_,Hl.out,Nat.mul_one]) H1.out.cells (dz_ _) (by unfold maxLen;omega) (by omega) hB1.size ?_;intro v' w2 hown2 hgrow2 _))
 obtain⟨a2,c2,rfl⟩:=li_ hown2
 rw[←ox_] at hown2
 have HO2:=hd_ (Wd.own hown2 (okw_append.2 ⟨fg_ q,H.out.ok⟩))
 have hB2:Below w.heap.size w w2:=hB1.grown hgrow2 hB1.size (fun k hk=>(hown1.lt k hk).1)
 have Hv:Hid (val (List.replicate q 0 ++ l) * val [P]=val l * 2 ^ t):=hd_ (by rw[HP.out,Hqr.out];exact vq_ l q r)
 clear hown1 hown2 hgrow2 hB1 H1 hq
 go_wp2_with fail
 refine (fd_ _ _ _ _ _ _ _ [P] _ (HO2.out.later (aa_ _ _)) (Wd.lit1 w2 81 (x:=P) hPb) (by omega) (by omega)).mono ?_
 rintro e w3 ⟨a3,n3,c3,rfl,h3,b3⟩
 rw[Hv.out] at h3
 have H3:=hd_ h3
 clear h3
 go_wp2
 go_ret
 exact⟨a3,n3,c3,rfl,H3.out,ab_ hB2 (ab_ (aa_ _ _) b3)⟩
def GcdRel (G base bound:Nat) (w0:World) (x y:Value) (wr:World):Prop:=
 ∃gx ox nx cx gy oy ny cy X Y,x=.slice (some ⟨gx,ox,none⟩) nx cx∧y=.slice (some ⟨gy,oy,none⟩) ny cy∧nx≤cx∧cx≤9223372036854775807∧ny≤cy∧cy≤9223372036854775807∧nx≤bound∧ny≤bound∧gx≠gy∧
  Hid (Win wr base gx ox nx (dg X))∧Hid (Win wr base gy oy ny (dg Y))∧Hid (X % 2=1∧Y % 2=1∧Nat.gcd X Y=G)∧Below base w0 wr
theorem win_lt{g off g':Nat}(hne:g≠g'):∀ad:Addr,some (⟨g,off,none⟩:Addr)=some ad→some ad.block≠some g':=by
 intro ad e h2
 simp only[Option.some.injEq] at e
 subst e
 exact hne (Option.some.inj h2)
theorem ref06_gcd(a:OA_)(n cap:Nat)(la:List Nat)(b:OA_)(m cap':Nat)(lb:List Nat)(w:World)(ha:Wd w a n cap la)(hb:Wd w b m cap' lb)(hn:n≤104857600000)(hm:m≤104857600000) :
 Calls Tryz.prog 58 #[.slice a n cap,.slice b m cap'] w (Lst (dg (Nat.gcd (val la) (val lb))) w):=by
 have hla:(dg (val la)).length≤n:=ha.trim_le
 have hlb:(dg (val lb)).length≤m:=hb.trim_le
 have hta:tz (val la)≤32 * n:=by
  by_cases h0:val la=0
  ·rw[h0,tz_zero];omega
  ·exact Nat.le_of_lt (tz_lt h0 (by rw[←ih_,←ha.len];exact d7_ ha.ok))
 have htb:tz (val lb)≤32 * m:=by
  by_cases h0:val lb=0
  ·rw[h0,tz_zero];omega
  ·exact Nat.le_of_lt (tz_lt h0 (by rw[←ih_,←hb.len];exact d7_ hb.ok))
 have Hb:=hd_ hb
 go_enter Tryz.func58,Tryz.ntmps58
 go_wp2_with fail
 refine (e7_ _ _ _ _ _ ha (by omega)).mono ?_
 rintro e w1 ⟨ax,nx,cx,rfl,hx,hB1⟩
 have Hx:=hd_ hx
 have hnx:nx≤104857600000:=by have h1:=hx.1;rw[bz_] at h1;omega
 have Hnx:Hid ((dg (val la)).length=nx):=hd_ (by have h1:=hx.1;rw[bz_] at h1;omega)
 have Hb1:=Hb.l_ hB1
 clear ha hb hx Hb
 go_wp2_with fail
 refine (e7_ _ _ _ _ _ Hb1.out (by omega)).mono ?_
 rintro e w2 ⟨ay,ny,cy,rfl,hy,hB2⟩
 have Hy:=hd_ hy
 have hny:ny≤104857600000:=by have h1:=hy.1;rw[bz_] at h1;omega
 have Hny:Hid ((dg (val lb)).length=ny):=hd_ (by have h1:=hy.1;rw[bz_] at h1;omega)
 have Hx2:=hd_ (pk_ Hx.out hB2)
 have hB12:=ab_ hB1 hB2
 clear hy hla hlb Hb1
 by_cases hx0:nx=0
 ·subst hx0
  have HG:Hid (Nat.gcd (val la) (val lb)=val lb):=hd_ (by rw[dg_nil_iff.1 Hnx.out,Nat.gcd_zero_left])
  have HW:=hd_ (Wd.own Hy.out (cv_ _))
  go_wp2
  go_ret
  exact⟨ay,ny,cy,rfl,by rw[HG.out];exact HW.out,hB12⟩
 ·have hxi:((nx:Int) == 0)=false:=by simp[hx0]
  by_cases hy0:ny=0
  ·subst hy0
   have HG:Hid (Nat.gcd (val la) (val lb)=val la):=hd_ (by rw[dg_nil_iff.1 Hny.out,Nat.gcd_zero_right])
   have HW:=hd_ (Wd.own Hx2.out (cv_ _))
   go_wp2
   go_ret
   exact⟨ax,nx,cx,rfl,by rw[HG.out];exact HW.out,hB12⟩
  ·have hyi:((ny:Int) == 0)=false:=by simp[hy0]
   obtain⟨gx,rfl,hOx⟩:=q9_ Hx2.out (cv_ _) (by omega)
   obtain⟨gy,rfl,hOy⟩:=q9_ Hy.out (cv_ _) (by omega)
   have hne:gx≠gy:=by
    have h1:=(Hx.out.lt gx rfl).2
    have h2:=(Hy.out.lt gy rfl).1
    omega
   have hva:Hid (val la≠0):=hd_ (fun h=>hx0 (Hnx.out.symm.trans (dg_nil_iff.2 h)))
   have hvb:Hid (val lb≠0):=hd_ (fun h=>hy0 (Hny.out.symm.trans (dg_nil_iff.2 h)))
   have hcx:=hOx.bound
   have hcy:=hOy.bound
   have HWx:=hd_ hOx.win
   have HWy:=hd_ (hOy.lower (base':=w.heap.size) hB1.size).win
   have hbx:=HWx.out.base
   have hby:=HWy.out.base
   have Hva:Hid (val (dg (val la))=val la):=hd_ (a1_ _)
   have Hvb:Hid (val (dg (val lb))=val lb):=hd_ (a1_ _)
   have HLa:Hid ((dg (oddp (val la))).length≤104857600000):=hd_ (Nat.le_trans (aw_ (Nat.div_le_self _ _)) (by rw[Hnx.out];exact hnx))
   have HLb:Hid ((dg (oddp (val lb))).length≤104857600000):=hd_ (Nat.le_trans (aw_ (Nat.div_le_self _ _)) (by rw[Hny.out];exact hny))
   have Hodd:Hid (oddp (val la) % 2=1∧oddp (val lb) % 2=1):=hd_ ⟨(jp_ hva.out).2,(jp_ hvb.out).2⟩
   have HG:=hd_ (gcd_parts hva.out hvb.out)
   clear hOx hOy Hx Hy Hx2 hx0 hy0 hB1 hB2
   go_wp2_with fail
   refine (jl_ w.heap.size _ gx 0 nx cx _ HWx.out (by omega) (by omega) (by omega) (by rw[Hva.out];exact hva)).mono ?_
   rintro e w3 ⟨ox,nx2,cx2,rfl,hcx1,hcx2,HX3,hG3⟩
   rw[Hva.out] at HX3 ⊢
   have hB3:=cf_ hB12 hG3 hbx.1
   have HY3:=hd_ (HWy.out.other hG3 (Ne.symm hne))
   clear HWx HWy hG3 hB12
   go_wp2_with fail
   refine (jl_ w.heap.size _ gy 0 ny cy _ HY3.out (by omega) (by omega) (by omega) (by rw[Hvb.out];exact hvb)).mono ?_
   rintro e w4 ⟨oy,ny2,cy2,rfl,hcy1,hcy2,HY4,hG4⟩
   rw[Hvb.out] at HY4 ⊢
   have hB4:=cf_ hB3 hG4 hby.1
   have HX4:=hd_ (HX3.out.other hG4 hne)
   have hnx2:nx2≤104857600000:=by rw[←HX4.out.len];exact HLa.out
   have hny2:ny2≤104857600000:=by rw[←HY4.out.len];exact HLb.out
   clear HX3 HY3 hG4 hB3 HLa HLb
   obtain⟨t,htt⟩:∃t:Nat,min ((tz (val la):Nat):Int) ((tz (val lb):Nat):Int)=(t:Int):=⟨min (tz (val la)) (tz (val lb)),by omega⟩
   have Htt:Hid (min (tz (val la)) (tz (val lb))=t):=hd_ (by omega)
   have htb2:t≤3355443200000:=by omega
   rw[Htt.out] at HG
   generalize tz (val la)=ta at *
   generalize tz (val lb)=tb at *
   generalize oddp (val la)=X0 at *
   generalize oddp (val lb)=Y0 at *
   generalize hGG:Nat.gcd X0 Y0=G at *
   have HGG:=hd_ hGG
   clear hGG Htt
   go_wp2
   go_loopw [5,6] (fun xv yv wr=>GcdRel G w.heap.size 104857600000 w xv yv wr) (fun xv yv wr=>ju_ wr xv+ju_ wr yv)
   case atStart=>exact⟨gx,ox,nx2,cx2,gy,oy,ny2,cy2,X0,Y0,rfl,rfl,hcx1,hcx2,hcy1,hcy2,hnx2,hny2,hne,HX4,HY4,hd_ ⟨Hodd.out.1,Hodd.out.2,HGG.out⟩,hB4⟩
   case round=>
    clear HX4 HY4 hB4 Hodd HGG hcx1 hcx2 hcy1 hcy2 hne
    obtain⟨gx,ox,nx,cx,gy,oy,ny,cy,X,Y,rfl,rfl,hcx1,hcx2,hcy1,hcy2,hnx,hny,hne,HX,HY,HXY,hB⟩:=hrel
    have HmX:=hd_ (HX.out.wd hcx1 hcx2).held
    have HmY:=hd_ (HY.out.wd hcy1 hcy2).held
    rw[a1_] at HmX HmY
    go_wp2_with fail
    refine (mb_ _ _ _ _ _ _ _ _ _ (HX.out.wd hcx1 hcx2) (HY.out.wd hcy1 hcy2) (by omega) (by omega)).mono ?_
    rintro e w5 ⟨rfl,rfl⟩
    rw[a1_,a1_]
    rcases Nat.lt_trichotomy X Y with hlt | heq | hlt
    ·have hc1:cmpI X Y < 0:=by rw[f2_ hlt];omega
     have HL:Hid (X < Y):=hd_ hlt
     have hbb:=HY.out.base
     have Hle:Hid (val (dg X)≤val (dg Y)):=hd_ (by rw[a1_,a1_];omega)
     have hlen:nx≤ny:=by rw[←HX.out.len,←HY.out.len];exact aw_ (by omega)
     have Hst:=hd_ (t4_ hlt HXY.out.1)
     clear hlt
     generalize cmpI X Y=c at *
     go_wp2_with fail
     refine (ie_ w.heap.size _ gy oy ny cy (dg Y) _ nx cx (dg X) HY.out (HX.out.wd hcx1 hcx2) (hd_ (win_lt hne)) (by omega) hlen Hle).mono ?_
     rintro e w6 ⟨P6,rfl,HP6,hG6,HV6⟩
     rw[a1_,a1_] at HV6
     have HS6:=hd_ (HX.out.other hG6 hne)
     have hB6:=cf_ hB hG6 hbb.1
     have Hn6:Hid (val P6≠0):=hd_ (by rw[HV6.out];have:=Hle.out;rw[a1_,a1_] at this;have:=HL.out;omega)
     clear hG6
     go_wp2_with fail
     refine (jl_ w.heap.size _ gy oy ny cy P6 HP6.out (by omega) (by omega) (by omega) Hn6).mono ?_
     rintro e w7 ⟨o7,n7,c7,rfl,hc71,hc72,HP7,hG7⟩
     rw[HV6.out] at HP7
     have HS7:=hd_ (HS6.out.other hG7 hne)
     have hB7:=hd_ (cf_ hB6 hG7 hbb.1)
     have hn7:n7≤104857600000:=by
      rw[←HP7.out.len]
      have h1:=aw_ (Nat.le_of_lt Hst.out.2.1)
      have h2:=HY.out.len
      omega
     have Hm7:=hd_ (HP7.out.wd hc71 hc72).held
     have Hms:=hd_ (HS7.out.wd hcx1 hcx2).held
     rw[a1_] at Hm7 Hms
     clear hG7 HP6 HS6 hB6 hB
     go_wp2
     go_roundw
     case rel=>
      exact⟨gy,o7,n7,c7,gx,ox,nx,cx,oddp (Y - X),X,rfl,rfl,hc71,hc72,hcx1,hcx2,hn7,hnx,Ne.symm hne,HP7,HS7,hd_ ⟨Hst.out.2.2,HXY.out.1,Hst.out.1.trans ((Nat.gcd_comm _ _).trans HXY.out.2.2)⟩,hB7.out⟩
     case measure=>
      rw[Hm7.out,Hms.out,HmX.out,HmY.out]
      have:=Hst.out.2.1
      omega
    ·subst heq
     have HGX:Hid (val (dg X) * 2 ^ t=Nat.gcd (val la) (val lb)):=hd_ (by rw[a1_,HG.out,←HXY.out.2.2,Nat.gcd_self])
     have HW:=hd_ (HX.out.wd hcx1 hcx2)
     rw[pj_ rfl]
     clear HX HY HmX HmY HXY
     go_wp2_with fail
     refine (qm_ gx ox nx cx (dg X) t _ HW.out (by omega) (by omega)).mono ?_
     rintro e w6 ⟨a6,n6,c6,rfl,h6,b6⟩
     rw[HGX.out] at h6
     have H6:=hd_ h6
     clear h6
     go_wp2
     go_ret
     exact⟨a6,n6,c6,rfl,H6.out,ab_ hB b6⟩
    ·have hc1:¬cmpI X Y < 0:=by rw[jr_ hlt];omega
     have hc2:¬cmpI X Y=0:=by rw[jr_ hlt];omega
     have HL:Hid (Y < X):=hd_ hlt
     have hbb:=HX.out.base
     have Hle:Hid (val (dg Y)≤val (dg X)):=hd_ (by rw[a1_,a1_];omega)
     have hlen:ny≤nx:=by rw[←HY.out.len,←HX.out.len];exact aw_ (by omega)
     have Hst:=hd_ (t4_ hlt HXY.out.2.1)
     clear hlt
     generalize cmpI X Y=c at *
     go_wp2_with fail
     refine (ie_ w.heap.size _ gx ox nx cx (dg X) _ ny cy (dg Y) HX.out (HY.out.wd hcy1 hcy2) (hd_ (win_lt (Ne.symm hne))) (by omega) hlen Hle).mono ?_
     rintro e w6 ⟨P6,rfl,HP6,hG6,HV6⟩
     rw[a1_,a1_] at HV6
     have HS6:=hd_ (HY.out.other hG6 (Ne.symm hne))
     have hB6:=cf_ hB hG6 hbb.1
     have Hn6:Hid (val P6≠0):=hd_ (by rw[HV6.out];have:=Hle.out;rw[a1_,a1_] at this;have:=HL.out;omega)
     clear hG6
     go_wp2_with fail
     refine (jl_ w.heap.size _ gx ox nx cx P6 HP6.out (by omega) (by omega) (by omega) Hn6).mono ?_
     rintro e w7 ⟨o7,n7,c7,rfl,hc71,hc72,HP7,hG7⟩
     rw[HV6.out] at HP7
     have HS7:=hd_ (HS6.out.other hG7 (Ne.symm hne))
     have hB7:=hd_ (cf_ hB6 hG7 hbb.1)
     have hn7:n7≤104857600000:=by
      rw[←HP7.out.len]
      have h1:=aw_ (Nat.le_of_lt Hst.out.2.1)
      have h2:=HX.out.len
      omega
     have Hm7:=hd_ (HP7.out.wd hc71 hc72).held
     have Hms:=hd_ (HS7.out.wd hcy1 hcy2).held
     rw[a1_] at Hm7 Hms
     clear hG7 HP6 HS6 hB6 hB
     go_wp2
     go_roundw
     case rel=>
      exact⟨gx,o7,n7,c7,gy,oy,ny,cy,oddp (X - Y),Y,rfl,rfl,hc71,hc72,hcy1,hcy2,hn7,hny,hne,HP7,HS7,hd_ ⟨Hst.out.2.2,HXY.out.2.1,Hst.out.1.trans HXY.out.2.2⟩,hB7.out⟩
     case measure=>
      rw[Hm7.out,Hms.out,HmX.out,HmY.out]
      have:=Hst.out.2.1
      omega
theorem lf_(a:OA_)(n cap:Nat)(v:Nat)(w:World)(h:Wd w a n cap (dg v)) :
 Calls Tryz.prog 57 #[.slice a n cap] w fun e w'=>e=.returned (.bool (decide (v=1)))∧w=w':=by
 have Hl:=hd_ h.len
 by_cases hn:n=1
 ·subst hn
  obtain⟨b,off,rfl,hc⟩:=h.at (by omega)
  have hc0:=hc 0 (by omega)
  have hv:atw (dg v) 0=v:=by
   have hl1:(dg v).length=1:=Hl.out
   have h1:=rp_ (l:=dg v) (by omega)
   rw[a1_,h8_ (l:=dg v) (i:=1) (by omega)] at h1
   omega
  rw[hv,Nat.add_zero] at hc0
  clear hc h hv
  go_enter Tryz.func57,Tryz.ntmps57
  go_wp2
  go_ret
  exact⟨fm_ (by rw[Bool.eq_iff_iff,beq_iff_eq,decide_eq_true_eq];omega),rfl⟩
 ·have hni:((n:Int) == 1)=false:=by simp;omega
  have Hv:Hid (v≠1):=hd_ (fun e=>by subst e;have:=Hl.out;rw[gg_ (by decide) (by decide)] at this;exact hn this.symm)
  clear hn h
  go_enter Tryz.func57,Tryz.ntmps57
  go_wp2
  go_ret
  exact⟨fm_ (decide_eq_false Hv.out).symm,rfl⟩
theorem np_(a:OA_)(n cap:Nat)(la:List Nat)(b:OA_)(m cap':Nat)(v:Nat)(w:World)(ha:Wd w a n cap la)(hb:Wd w b m cap' (dg v))(hn:n≤104857600000)(hm:m≤104857600000)(h0:Hid (v≠0)) :
 Calls Tryz.prog 59 #[.slice a n cap,.slice b m cap'] w (Lst (dg (val la / v)) w):=by
 have Ha:=hd_ ha
 have Hb:=hd_ hb
 clear ha hb
 go_enter Tryz.func59,Tryz.ntmps59
 go_wp2_with fail
 refine (lf_ _ _ _ v _ Hb.out).mono ?_
 rintro e w' ⟨rfl,rfl⟩
 by_cases h1:v=1
 ·have HF:Hid (val la / v=val la):=hd_ (by rw[h1,Nat.div_one])
  rw[decide_eq_true h1]
  clear h1
  go_wp2_with fail
  refine (dp_ _ _ _ _ _ Ha.out (by omega)).mono ?_
  rintro e w1 ⟨a1,n1,c1,rfl,h1,b1⟩
  rw[←HF.out] at h1
  have H1:=hd_ h1
  clear h1
  go_wp2
  go_ret
  exact⟨a1,n1,c1,rfl,H1.out,b1⟩
 ·rw[decide_eq_false h1]
  clear h1
  go_wp2_with fail
  refine (ref05_div _ _ _ _ _ _ _ _ _ Ha.out Hb.out (by omega) (by omega) (by rw[a1_];exact h0)).mono ?_
  rintro e w1 ⟨a1,n1,c1,a2,n2,c2,rfl,h1,h2,b1⟩
  rw[a1_] at h1
  have H1:=hd_ h1
  clear h1 h2
  go_wp2
  go_ret
  exact⟨a1,n1,c1,rfl,H1.out,b1⟩
theorem g0_{w:World}{A0:Nat}{c0_0 c0_1 c0_2:Value}{t0:TypeId}(h0:w.heap[A0]? = some (.cells #[c0_0,c0_1,c0_2] t0 (0,0))):w.cell? ⟨A0,0,none⟩=some c0_0∧w.cell? ⟨A0,1,none⟩=some c0_1∧w.cell? ⟨A0,2,none⟩=some c0_2:=⟨af_ h0 0,af_ h0 1,af_ h0 2⟩
theorem bg_{w:World}{A0 A1:Nat}{c0_0 c0_1 c0_2 c1_0 c1_1 c1_2:Value}{t0 t1:TypeId}(h0:w.heap[A0]? = some (.cells #[c0_0,c0_1,c0_2] t0 (0,0)))(h1:w.heap[A1]? = some (.cells #[c1_0,c1_1,c1_2] t1 (0,0))):w.cell? ⟨A0,0,none⟩=some c0_0∧w.cell? ⟨A0,1,none⟩=some c0_1∧w.cell? ⟨A0,2,none⟩=some c0_2∧w.cell? ⟨A1,0,none⟩=some c1_0∧w.cell? ⟨A1,1,none⟩=some c1_1∧w.cell? ⟨A1,2,none⟩=some c1_2:=⟨af_ h0 0,af_ h0 1,af_ h0 2,af_ h1 0,af_ h1 1,af_ h1 2⟩
theorem bm_{w:World}{g:Nat}{x y z:Value}{t:TypeId}(h:w.heap[g]? = some (.cells #[x,y,z] t (0,0)))(u v q:Value):(((w.setCell ⟨g,0,none⟩ u).setCell ⟨g,1,none⟩ v).setCell ⟨g,2,none⟩ q).heap[g]? = some (.cells #[u,v,q] t (0,0)):=by
 have h1:=gf_ (gf_ (gf_ h 0 u) 1 v) 2 q
 simpa using h1
theorem mj_{b:Bool}{a:Option Addr}{n cap:Nat}{c:Option Addr}{m cap':Nat}:∀(j:Nat) (k:Int),(#[Value.bool b,.slice a n cap,.slice c m cap']:Array Value)[j]?≠some (.int .u32 k):=by
 intro j k
 match j with
 | 0=>simp
 | 1=>simp
 | 2=>simp
 | j+3=>simp
theorem Wd.stored3{w:World}{a:Option Addr}{n cap:Nat}{l:List Nat}(h:Wd w a n cap l){g:Nat}{b:Bool}{x:Option Addr}{y z:Nat}{x':Option Addr}{y' z':Nat}{t:TypeId}(hg:w.heap[g]? = some (.cells #[.bool b,.slice x y z,.slice x' y' z'] t (0,0)))(c:Bool)(e:OA_)(i j:Nat)(v:Value) :
 Wd (((w.setCell ⟨g,0,none⟩ (.bool c)).setCell ⟨g,1,none⟩ (.slice e i j)).setCell ⟨g,2,none⟩ v) a n cap l:=by
 have h1:=h.stored hg mj_ 0 (.bool c)
 have g1:(w.setCell ⟨g,0,none⟩ (.bool c)).heap[g]? = some (.cells #[.bool c,.slice x y z,.slice x' y' z'] t (0,0)):=by simpa using gf_ hg 0 (.bool c)
 have h2:=h1.stored g1 mj_ 1 (.slice e i j)
 have g2:((w.setCell ⟨g,0,none⟩ (.bool c)).setCell ⟨g,1,none⟩ (.slice e i j)).heap[g]? = some (.cells #[.bool c,.slice e i j,.slice x' y' z'] t (0,0)):=by simpa using gf_ g1 1 (.slice e i j)
 exact h2.stored g2 mj_ 2 v
theorem az_{w w1:World}{g:Nat}(h:Below w.heap.size w w1)(hg:w.heap.size≤g)(u v q:Value):Below w.heap.size w (((w1.setCell ⟨g,0,none⟩ u).setCell ⟨g,1,none⟩ v).setCell ⟨g,2,none⟩ q):=((h.setCell (p:=⟨g,0,none⟩) hg u).setCell (p:=⟨g,1,none⟩) hg v).setCell (p:=⟨g,2,none⟩) hg q
theorem ft_(neg:Bool)(a:OA_)(n cap:Nat)(la:List Nat)(b:OA_)(m cap':Nat)(lb:List Nat)(w:World)(ha:Wd w a n cap la)(hb:Wd w b m cap' lb)(hn:n≤104857600000)(hm:m≤104857600000) :
 Calls Tryz.prog 11 #[frV neg a n cap b m cap'] w (LstQ (qval neg (val la) (val lb)) w):=by
 obtain⟨qq,hqq⟩:∃qq,qq=qval neg (val la) (val lb):=⟨_,rfl⟩
 rw[←hqq]
 have HQ:=hd_ hqq
 clear hqq
 have hla:=ha.trim_le
 have hlb:=hb.trim_le
 have HB:=hd_ (ab_ (aa_ w (.cells #[.bool neg,.slice a n cap,.slice b m cap'] 27)) (aa_ _ (.cells #[.bool false,.slice none 0 0,.slice none 0 0] 27)))
 have HA:=hd_ (ha.later HB.out)
 have HC:=hd_ (hb.later HB.out)
 obtain⟨hx1,hx2⟩:=c8_ w ((w.alloc (.cells #[.bool neg,.slice a n cap,.slice b m cap'] 27)).alloc (.cells #[.bool false,.slice none 0 0,.slice none 0 0] 27)) #[.bool neg,.slice a n cap,.slice b m cap'] #[.bool false,.slice none 0 0,.slice none 0 0] 27 27 (Below.refl _ _)
 have HX:=hd_ hx1
 have HR:=hd_ hx2
 clear ha hb hx1 hx2
 go_enter Tryz.func11,Tryz.ntmps11
 unfold frV
 obtain⟨k0,k1,k2,k3,k4,k5⟩:=bg_ HX.out HR.out
 go_wp2_with fail
 refine (dp_ b m cap' lb _ HC.out (by omega)).mono ?_
 rintro e w1 ⟨a1,n1,c1,rfl,h1,b⟩
 clear k0 k1 k2 k3 k4 k5
 replace HB:=bt_ HB b
 replace HX:=bl_ HX b
 replace HR:=bl_ HR b
 clear HC
 replace HA:=HA.l_ b
 clear b
 have Hn1:=hd_ h1.len
 have hn1:n1≤104857600000:=by have:=h1.len;omega
 have R1:=hd_ h1
 clear h1
 obtain⟨k0,k1,k2,k3,k4,k5⟩:=bg_ HX.out HR.out
 go_wp2_with fail
 refine (dp_ a n cap la _ HA.out (by omega)).mono ?_
 rintro e w2 ⟨a2,n2,c2,rfl,h2,b⟩
 clear k0 k1 k2 k3 k4 k5
 replace HB:=bt_ HB b
 replace HX:=bl_ HX b
 replace HR:=bl_ HR b
 clear HA
 replace R1:=R1.l_ b
 clear b
 have Hn2:=hd_ h2.len
 have hn2:n2≤104857600000:=by have:=h2.len;omega
 have R2:=hd_ h2
 clear h2
 by_cases hz:n1=0
 ·subst hz
  obtain rfl:qq=0:=HQ.out.trans (d5_ neg (.inl (dg_nil_iff.1 Hn1.out)))
  have HB4:=hd_ (ab_ (aa_ w2 (.cells #[] 81)) (aa_ _ (.cells #[.int .u32 1] 81)))
  have HR4:=hd_ (ac_ HR.out HB4.out)
  obtain⟨k3,k4,k5⟩:=g0_ HR4.out
  have f0:=ad_ HR4.out 0
  have f1:=ad_ HR4.out 1
  have f2:=ad_ HR4.out 2
  have HG:=hd_ (bm_ HR4.out (.bool false) (.slice (some ⟨w2.heap.size,0,none⟩) 0 0) (.slice (some ⟨w2.heap.size+1,0,none⟩) 1 1))
  have HL:=hd_ (az_ (ab_ HB.out HB4.out) (show w.heap.size≤w.heap.size+1 by omega) (.bool false) (.slice (some ⟨w2.heap.size,0,none⟩) 0 0) (.slice (some ⟨w2.heap.size+1,0,none⟩) 1 1))
  have w1':Wd ((w2.alloc (.cells #[] 81)).alloc (.cells #[.int .u32 1] 81)) (some ⟨w2.heap.size+1,0,none⟩) 1 1 [1]:=by
   have h:=Wd.lit1 (w2.alloc (.cells #[] 81)) 81 (x:=1) (by omega)
   rwa [al_] at h
  have HW1:=hd_ (w1'.stored3 HR4.out false (some ⟨w2.heap.size,0,none⟩) 0 0 (.slice (some ⟨w2.heap.size+1,0,none⟩) 1 1))
  clear w1'
  go_wp2
  refine bodyPost_ret (results_cell_row Tryz.results11 _ _ (w.heap.size+1) 27 #[.bool false,.slice (some ⟨w2.heap.size,0,none⟩) 0 0,.slice (some ⟨w2.heap.size+1,0,none⟩) 1 1] (0,0) _ rfl HG.out Tryz.underlying27 rfl (by kernel_rfl)) rfl ?_
  refine ⟨_,_,_,_,_,_,rfl,?_,?_,HL.out⟩
  ·show Wd _ _ _ _ (dg (0:Nat))
   rw[cm_];exact Wd.empty _ _ _ (by omega)
  ·show Wd _ _ _ _ (dg (1:Nat))
   rw[gg_ (by decide) (by decide)];exact HW1.out
 ·have hzi:((n1:Int) == 0)=false:=by simp[hz]
  by_cases hy:n2=0
  ·subst hy
   obtain rfl:qq=0:=HQ.out.trans (d5_ neg (.inr (dg_nil_iff.1 Hn2.out)))
   have HB4:=hd_ (ab_ (aa_ w2 (.cells #[] 81)) (aa_ _ (.cells #[.int .u32 1] 81)))
   have HR4:=hd_ (ac_ HR.out HB4.out)
   obtain⟨k3,k4,k5⟩:=g0_ HR4.out
   have f0:=ad_ HR4.out 0
   have f1:=ad_ HR4.out 1
   have f2:=ad_ HR4.out 2
   have HG:=hd_ (bm_ HR4.out (.bool false) (.slice (some ⟨w2.heap.size,0,none⟩) 0 0) (.slice (some ⟨w2.heap.size+1,0,none⟩) 1 1))
   have HL:=hd_ (az_ (ab_ HB.out HB4.out) (show w.heap.size≤w.heap.size+1 by omega) (.bool false) (.slice (some ⟨w2.heap.size,0,none⟩) 0 0) (.slice (some ⟨w2.heap.size+1,0,none⟩) 1 1))
   have w1':Wd ((w2.alloc (.cells #[] 81)).alloc (.cells #[.int .u32 1] 81)) (some ⟨w2.heap.size+1,0,none⟩) 1 1 [1]:=by
    have h:=Wd.lit1 (w2.alloc (.cells #[] 81)) 81 (x:=1) (by omega)
    rwa [al_] at h
   have HW1:=hd_ (w1'.stored3 HR4.out false (some ⟨w2.heap.size,0,none⟩) 0 0 (.slice (some ⟨w2.heap.size+1,0,none⟩) 1 1))
   clear w1'
   go_wp2
   refine bodyPost_ret (results_cell_row Tryz.results11 _ _ (w.heap.size+1) 27 #[.bool false,.slice (some ⟨w2.heap.size,0,none⟩) 0 0,.slice (some ⟨w2.heap.size+1,0,none⟩) 1 1] (0,0) _ rfl HG.out Tryz.underlying27 rfl (by kernel_rfl)) rfl ?_
   refine ⟨_,_,_,_,_,_,rfl,?_,?_,HL.out⟩
   ·show Wd _ _ _ _ (dg (0:Nat))
    rw[cm_];exact Wd.empty _ _ _ (by omega)
   ·show Wd _ _ _ _ (dg (1:Nat))
    rw[gg_ (by decide) (by decide)];exact HW1.out
  ·have hyi:((n2:Int) == 0)=false:=by simp[hy]
   have hv0:Hid (val lb≠0):=hd_ (fun h=>hz (Hn1.out.symm.trans (dg_nil_iff.2 h)))
   have hu0:Hid (val la≠0):=hd_ (fun h=>hy (Hn2.out.symm.trans (dg_nil_iff.2 h)))
   have HP:=hd_ (e3_ neg (u:=val la) hv0.out)
   have HS:=hd_ (qval_sign neg hv0.out hu0.out)
   rw[←HQ.out] at HP HS
   have HA1:Hid (qq.num.natAbs=val la / Nat.gcd (val la) (val lb)):=hd_ (by rw[HP.out.1,dy_])
   have HA2:Hid (qq.den=val lb / Nat.gcd (val la) (val lb)):=hd_ HP.out.2
   have hgl:(dg (Nat.gcd (val la) (val lb))).length≤104857600000:=Nat.le_trans (aw_ (Nat.gcd_le_left _ (Nat.pos_of_ne_zero hu0.out))) (by omega)
   have Hg0:Hid (Nat.gcd (val la) (val lb)≠0):=hd_ (Nat.ne_of_gt (Nat.gcd_pos_of_pos_left _ (Nat.pos_of_ne_zero hu0.out)))
   clear HP
   by_cases h1:val lb=1
   ·obtain⟨vk0,vk1,vk2,vk3,vk4,vk5⟩:=bg_ HX.out HR.out
    go_wp2_with fail
    refine (lf_ a1 n1 c1 (val lb) _ R1.out).mono ?_
    rintro e w' ⟨rfl,rfl⟩
    clear vk0 vk1 vk2 vk3 vk4 vk5
    rw[decide_eq_true h1]
    have HG1:Hid (Nat.gcd (val la) (val lb)=1):=hd_ (by rw[h1,Nat.gcd_one_right])
    have HN1:Hid (dg (val la / Nat.gcd (val la) (val lb))=dg (val la)):=hd_ (by rw[HG1.out,Nat.div_one])
    have HN2:Hid (dg (val lb / Nat.gcd (val la) (val lb))=dg (val lb)):=hd_ (by rw[HG1.out,Nat.div_one])
    clear h1
    have HG:=hd_ (bm_ HR.out (.bool neg) (.slice a2 n2 c2) (.slice a1 n1 c1))
    have HL:=hd_ (az_ HB.out (show w.heap.size≤w.heap.size+1 by omega) (.bool neg) (.slice a2 n2 c2) (.slice a1 n1 c1))
    have HW1:=hd_ (R2.out.stored3 HR.out neg a2 n2 c2 (.slice a1 n1 c1))
    have HW2:=hd_ (R1.out.stored3 HR.out neg a2 n2 c2 (.slice a1 n1 c1))
    obtain⟨k0,k1,k2,k3,k4,k5⟩:=bg_ HX.out HR.out
    have f0:=ad_ HR.out 0
    have f1:=ad_ HR.out 1
    have f2:=ad_ HR.out 2
    go_wp2
    refine bodyPost_ret (results_cell_row Tryz.results11 _ _ (w.heap.size+1) 27 #[.bool neg,.slice a2 n2 c2,.slice a1 n1 c1] (0,0) _ rfl HG.out Tryz.underlying27 rfl (by kernel_rfl)) rfl ?_
    refine ⟨_,_,_,_,_,_,by rw[HS.out];rfl,?_,?_,HL.out⟩
    ·rw[HA1.out];rw[HN1.out];exact HW1.out
    ·rw[HA2.out];rw[HN2.out];exact HW2.out
   ·obtain⟨vk0,vk1,vk2,vk3,vk4,vk5⟩:=bg_ HX.out HR.out
    go_wp2_with fail
    refine (lf_ a1 n1 c1 (val lb) _ R1.out).mono ?_
    rintro e w' ⟨rfl,rfl⟩
    clear vk0 vk1 vk2 vk3 vk4 vk5
    rw[decide_eq_false h1]
    clear h1
    have HV1:Hid (val (dg (val la))=val la):=hd_ (a1_ _)
    have HV2:Hid (val (dg (val lb))=val lb):=hd_ (a1_ _)
    obtain⟨vk0,vk1,vk2,vk3,vk4,vk5⟩:=bg_ HX.out HR.out
    go_wp2_with fail
    refine (ref06_gcd a2 n2 c2 _ a1 n1 c1 _ _ R2.out R1.out (by omega) (by omega)).mono ?_
    rintro e wv2 ⟨a3,n3,c3,rfl,h3,b⟩
    clear vk0 vk1 vk2 vk3 vk4 vk5
    replace HB:=bt_ HB b
    replace HX:=bl_ HX b
    replace HR:=bl_ HR b
    replace R1:=R1.l_ b
    replace R2:=R2.l_ b
    clear b
    rw[HV1.out,HV2.out] at h3
    have hn3:n3≤104857600000:=by have:=h3.len;omega
    have R3:=hd_ h3
    clear h3
    obtain⟨vk0,vk1,vk2,vk3,vk4,vk5⟩:=bg_ HX.out HR.out
    go_wp2_with fail
    refine (np_ a2 n2 c2 _ a3 n3 c3 _ _ R2.out R3.out (by omega) (by omega) Hg0).mono ?_
    rintro e wv3 ⟨a4,n4,c4,rfl,h4,b⟩
    clear vk0 vk1 vk2 vk3 vk4 vk5
    replace HB:=bt_ HB b
    replace HX:=bl_ HX b
    replace HR:=bl_ HR b
    clear R2
    replace R1:=R1.l_ b
    replace R3:=R3.l_ b
    clear b
    rw[HV1.out] at h4
    have R4:=hd_ h4
    clear h4
    obtain⟨vk0,vk1,vk2,vk3,vk4,vk5⟩:=bg_ HX.out HR.out
    go_wp2_with fail
    refine (np_ a1 n1 c1 _ a3 n3 c3 _ _ R1.out R3.out (by omega) (by omega) Hg0).mono ?_
    rintro e wv4 ⟨a5,n5,c5,rfl,h5,b⟩
    clear vk0 vk1 vk2 vk3 vk4 vk5
    replace HB:=bt_ HB b
    replace HX:=bl_ HX b
    replace HR:=bl_ HR b
    clear R1
    clear R3
    replace R4:=R4.l_ b
    clear b
    rw[HV2.out] at h5
    have R5:=hd_ h5
    clear h5
    have HG:=hd_ (bm_ HR.out (.bool neg) (.slice a4 n4 c4) (.slice a5 n5 c5))
    have HL:=hd_ (az_ HB.out (show w.heap.size≤w.heap.size+1 by omega) (.bool neg) (.slice a4 n4 c4) (.slice a5 n5 c5))
    have HW1:=hd_ (R4.out.stored3 HR.out neg a4 n4 c4 (.slice a5 n5 c5))
    have HW2:=hd_ (R5.out.stored3 HR.out neg a4 n4 c4 (.slice a5 n5 c5))
    obtain⟨k0,k1,k2,k3,k4,k5⟩:=bg_ HX.out HR.out
    have f0:=ad_ HR.out 0
    have f1:=ad_ HR.out 1
    have f2:=ad_ HR.out 2
    go_wp2
    refine bodyPost_ret (results_cell_row Tryz.results11 _ _ (w.heap.size+1) 27 #[.bool neg,.slice a4 n4 c4,.slice a5 n5 c5] (0,0) _ rfl HG.out Tryz.underlying27 rfl (by kernel_rfl)) rfl ?_
    refine ⟨_,_,_,_,_,_,by rw[HS.out];rfl,?_,?_,HL.out⟩
    ·rw[HA1.out];exact HW1.out
    ·rw[HA2.out];exact HW2.out
theorem ut_(neg:Bool)(a:OA_)(n cap:Nat)(b:OA_)(m cap':Nat)(w:World) :
 Calls Tryz.prog 70 #[frV neg a n cap b m cap'] w (bi_ (.bool ((n:Int) == 0)) w):=by
 unfold frV
 go_enter Tryz.func70,Tryz.ntmps70
 go_wp2
 go_ret
 exact⟨rfl,aa_ _ _⟩
theorem it_(w:World)(x y z:Array Value)(t s r:TypeId) :
 (((w.alloc (.cells x t)).alloc (.cells y s)).alloc (.cells z r)).heap[w.heap.size]? = some (.cells x t (0,0))∧(((w.alloc (.cells x t)).alloc (.cells y s)).alloc (.cells z r)).heap[w.heap.size+1]? = some (.cells y s (0,0))∧(((w.alloc (.cells x t)).alloc (.cells y s)).alloc (.cells z r)).heap[w.heap.size+1+1]? = some (.cells z r (0,0)):=by
 obtain⟨h1,h2⟩:=c8_ w (((w.alloc (.cells x t)).alloc (.cells y s)).alloc (.cells z r)) x y t s (aa_ _ _)
 refine ⟨h1,h2,?_⟩
 have h3:=ai_ ((w.alloc (.cells x t)).alloc (.cells y s)) z r
 rw[al_,al_] at h3
 exact h3
theorem bx_{w:World}{A B:Nat}{x y z u:Value}{t s:TypeId}(h1:w.heap[A]? = some (.cells #[x,y] t (0,0)))(h2:w.heap[B]? = some (.cells #[z,u] s (0,0))) :
 w.cell? ⟨A,0,none⟩=some x∧w.cell? ⟨A,1,none⟩=some y∧w.cell? ⟨B,0,none⟩=some z∧w.cell? ⟨B,1,none⟩=some u:=⟨af_ h1 0,af_ h1 1,af_ h2 0,af_ h2 1⟩
theorem ci_{w:World}{A g:Nat}{o:Obj}(h:w.heap[A]? = some o)(hne:A≠g)(i:Nat)(u:Value):(w.setCell ⟨g,i,none⟩ u).heap[A]? = some o:=(Below.heap_setCell w ⟨g,i,none⟩ u A hne).trans h
theorem f0_{w:World}{A B g:Nat}{x y z u:Value}{t s:TypeId}(h1:w.heap[A]? = some (.cells #[x,y] t (0,0)))(h2:w.heap[B]? = some (.cells #[z,u] s (0,0)))(hA:A≠g)(hB:B≠g)(p q:Value) :
 ((w.setCell ⟨g,0,none⟩ p).setCell ⟨g,1,none⟩ q).cell? ⟨A,0,none⟩=some x∧((w.setCell ⟨g,0,none⟩ p).setCell ⟨g,1,none⟩ q).cell? ⟨A,1,none⟩=some y∧((w.setCell ⟨g,0,none⟩ p).setCell ⟨g,1,none⟩ q).cell? ⟨B,0,none⟩=some z∧((w.setCell ⟨g,0,none⟩ p).setCell ⟨g,1,none⟩ q).cell? ⟨B,1,none⟩=some u:=
 bx_ (ci_ (ci_ h1 hA 0 p) hA 1 q) (ci_ (ci_ h2 hB 0 p) hB 1 q)
theorem i3_(neg:Bool)(u v:Nat):zval neg (u+v)=zval neg u+zval neg v:=by unfold zval;cases neg <;> simp <;> omega
theorem jc_{na nb:Bool}{u v:Nat}(hne:na≠nb)(h:u < v):zval nb (v - u)=zval na u+zval nb v:=by
 unfold zval;cases na <;> cases nb <;> simp at hne ⊢ <;> omega
theorem jj_{na nb:Bool}{u v:Nat}(hne:na≠nb)(h:v≤u):zval na (u - v)=zval na u+zval nb v:=by
 unfold zval;cases na <;> cases nb <;> simp at hne ⊢ <;> omega
theorem t3_(na nb:Bool)(u v:Nat):zval (!(na == nb)) (u * v)=zval na u * zval nb v:=by
 unfold zval;cases na <;> cases nb <;> simp[Int.neg_mul,Int.mul_neg]
end Go.Proofs.YtocebjbjnfammaaGreat
