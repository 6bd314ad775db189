import Derived.Test.YtocebjbjnfammaaGreatTG3
import Derived.Test.YtocebjbjnfammaaGreatTG2
import Derived.Test.YtocebjbjnfammaaGreatTG1
import Derived.BigRegion
import Derived.StillTailTactics
set_option maxRecDepth 4096
set_option maxHeartbeats 16000000
namespace Go.Proofs.YtocebjbjnfammaaGreat
open Go.RowKit
def jg_ (P R:List Nat) (k c c0:Nat):Prop:=val R+4294967296 ^ k * c=val P+low P k+c0∧∀j,k≤j→atw R j=atw P j
theorem re_(P:List Nat)(c0:Nat):jg_ P P 0 c0 c0:=⟨by rw[cj_];simp,fun _ _=>rfl⟩
theorem s9_{P R:List Nat}{k c c0 r z:Nat}(h:jg_ P R k c c0)(hk:k < R.length)(hs:r+4294967296 * z=2 * atw P k+c):jg_ P (R.set k r) (k+1) z c0:=by
 refine ⟨?_,fun j hj=>by rw[ep_ (by omega)];exact h.2 j (by omega)⟩
 have h1:=f1_ R k r hk
 rw[h.2 k (Nat.le_refl _)] at h1
 have h2:=mv_ (c:=c) (u:=atw P k) (d:=atw P k) (z:=z) h1 (by omega)
 have h3:=h.1
 rw[dj_]
 generalize val (R.set k r)=a1 at *
 generalize 4294967296 ^ (k+1) * z=a2 at *
 generalize 4294967296 ^ k * c=a3 at *
 generalize 4294967296 ^ k * atw P k=a4 at *
 omega
theorem vy_{P R:List Nat}{k c c0:Nat}(h:jg_ P R k c c0)(hk:P.length=k):val R+4294967296 ^ k * c=2 * val P+c0:=by
 have h1:=h.1
 rw[eh_ (by omega)] at h1
 omega
def or_ (P D R:List Nat) (k s:Nat):Prop:=val R+low D k=val P+4294967296 ^ k * s∧∀j,k≤j→atw R j=atw P j
theorem ov_(P D:List Nat):or_ P D P 0 0:=⟨by rw[cj_],fun _ _=>rfl⟩
theorem js_{P D R:List Nat}{k s r z:Nat}(h:or_ P D R k s)(hk:k < R.length)(hs:atw P k+4294967296 * z=atw D k+s+r):or_ P D (R.set k r) (k+1) z:=by
 refine ⟨?_,fun j hj=>by rw[ep_ (by omega)];exact h.2 j (by omega)⟩
 have h1:=f1_ R k r hk
 rw[h.2 k (Nat.le_refl _)] at h1
 have h2:=md_ h1 hs rfl
 have h3:=h.1
 rw[Nat.mul_add] at h2
 rw[dj_]
 generalize val (R.set k r)=a1 at *
 generalize 4294967296 ^ (k+1) * z=a2 at *
 generalize 4294967296 ^ k * atw D k=a3 at *
 generalize 4294967296 ^ k * s=a4 at *
 omega
theorem tu_{P D R:List Nat}{k s:Nat}(h:or_ P D R k s)(hR:okw R)(hk:R.length=k)(hD:D.length≤k)(hle:val D≤val P):val R=val P - val D:=by
 have h1:=h.1
 have h2:=ee_ hR
 rw[hk] at h2
 rw[eh_ hD] at h1
 rcases Nat.eq_zero_or_pos s with h0 | h0
 ·subst h0;omega
 ·have h3:4294967296 ^ k * 1≤4294967296 ^ k * s:=Nat.mul_le_mul_left _ h0
  generalize 4294967296 ^ k * s=a4 at *
  generalize 4294967296 ^ k=a5 at *
  omega
def vq_ (base g N cap c0:Nat) (P:List Nat) (w:World) (e:Ending) (w':World):Prop:=
 ∃(P':List Nat) (z:Nat),e=.returned (.tuple #[])∧Hid (Own w' base g N cap P')∧w.grownBy w' (some g)∧Hid (val P'+4294967296 ^ N * z=2 * val P+c0)
theorem k3_(base g N cap c0:Nat)(more:Bool)(P:List Nat)(w:World)(hO:Own w base g N cap P)(hN:N≤2097152000000)(hm:c0=if more=true then 1 else 0) :
 Calls Tryz.prog 139 #[.slice (some ⟨g,0,none⟩) N cap,.bool more] w (vq_ base g N cap c0 P w):=by
 have HO0:=hd_ hO
 have HPl:=hd_ hO.len
 have HPo:=hd_ hO.2
 have hc0:c0≤1:=by rw[hm];split <;> omega
 have HM:=hd_ hm
 clear hO hm
 go_enter Tryz.func139,Tryz.ntmps139
 cases more
 all_goals (
  go_wp2
  go_loopw [4,5] (fun cv kv wr=>∃(k c:Nat) (R:List Nat),k≤N∧kv=.int .i64 (k:Int)∧cv=.int .u32 (c:Int)∧c≤1∧Hid (jg_ P R k c c0)∧Hid (Own wr base g N cap R)∧w.grownBy wr (some g)) (fun _ kv _=>N - (intOf kv).toNat)
  case atStart=>exact⟨0,c0,P,by omega,rfl,by rw[HM.out];rfl,hc0,hd_ (re_ _ _),HO0,e8_ _ _⟩
  case round=>
   obtain⟨k,c,R,hk,rfl,rfl,hc,HD,HO,hG⟩:=hrel
   by_cases hlt:k < N
   ·have hcell:=HO.out.cell (k:=k) hlt
    rw[HD.out.2 k (Nat.le_refl _)] at hcell
    have hfro:=HO.out.1.frozenAt k
    have huw:=bi_ HPo.out k
    obtain⟨u,huu⟩:∃u,u=atw P k:=⟨_,rfl⟩
    rw[←huu] at huw hcell
    have Hu:=hd_ huu
    have hki:(k:Int) < (N:Int):=by omega
    obtain⟨z,hz⟩:∃z:Nat,(u:Int) / 2147483648=(z:Int):=⟨u / 2147483648,by omega⟩
    obtain⟨v,hv⟩:∃v:Nat,(u:Int) * 2 % 4294967296=(v:Int):=⟨u * 2 % 4294967296,by omega⟩
    obtain⟨r,hr⟩:∃r:Nat,(v:Int)+(c:Int)=(r:Int):=⟨v+c,by omega⟩
    have Hs:Hid (r+4294967296 * z=2 * u+c):=hd_ (by omega)
    have hz1:z≤1:=by omega
    have hrw:r < 4294967296:=by omega
    have HOs:=hd_ (HO.out.set k r hrw)
    have hGs:=hd_ (cs_ hG (ce_ _ g k (.int .u32 (r:Int))))
    clear huu
    go_wp2
    go_roundw
    case rel=>exact⟨k+1,z,R.set k r,by omega,by go_num,rfl,hz1,hd_ (s9_ HD.out (by rw[HO.out.len];omega) (by rw[←Hu.out];exact Hs.out)),HOs,hGs.out⟩
    case measure=>simp[intOf];omega
   ·obtain rfl:k=N:=by omega
    have Hfin:=hd_ (vy_ HD.out HPl.out)
    go_wp2
    go_end0
    exact⟨R,c,rfl,HO,hG,Hfin⟩)
def LessPost (base g N cap:Nat) (P D:List Nat) (w:World) (e:Ending) (w':World):Prop:=
 ∃(P':List Nat),e=.returned (.tuple #[])∧Hid (Own w' base g N cap P')∧w.grownBy w' (some g)∧Hid (val P'=val P - val D)
theorem v2_(w0 w:World)(g N cap:Nat)(P:List Nat)(d:OA_)(m dcap:Nat)(D:List Nat)(hO:Own w w0.heap.size g N cap P)(hB:Below w0.heap.size w0 w)(hd:Wd w0 d m dcap D)(hN:N≤2097152000000)(hm:m≤N)(hle:Hid (val D≤val P)) :
 Calls Tryz.prog 103 #[.slice (some ⟨g,0,none⟩) N cap,.slice d m dcap] w (LessPost w0.heap.size g N cap P D w):=by
 have HO0:=hd_ hO
 have HPl:=hd_ hO.len
 have HPo:=hd_ hO.2
 have HD:=hd_ hd
 clear hO hd
 go_enter Tryz.func103,Tryz.ntmps103
 go_wp2
 go_loopw [4,5] (fun sv kv wr=>∃(k s:Nat) (R:List Nat),k≤N∧kv=.int .i64 (k:Int)∧sv=.int .u64 (s:Int)∧s≤1∧Hid (or_ P D R k s)∧Hid (Own wr w0.heap.size g N cap R)∧w.grownBy wr (some g)) (fun _ kv _=>N - (intOf kv).toNat)
 case atStart=>exact⟨0,0,P,by omega,rfl,rfl,by omega,hd_ (ov_ _ _),HO0,e8_ _ _⟩
 case round=>
  obtain⟨k,s,R,hk,rfl,rfl,hs,HL,HO,hG⟩:=hrel
  have hbase:=HO.out.base
  by_cases hlt:k < N
  ·have hcell:=HO.out.cell (k:=k) hlt
   rw[HL.out.2 k (Nat.le_refl _)] at hcell
   have hfro:=HO.out.1.frozenAt k
   have huw:=bi_ HPo.out k
   obtain⟨u,huu⟩:∃u,u=atw P k:=⟨_,rfl⟩
   rw[←huu] at huw hcell
   have Hu:=hd_ huu
   have hki:(k:Int) < (N:Int):=by omega
   clear huu
   go_wp2_with fail
   refine (dc_ _ _ _ k _ _ (HD.out.later (cp_ hB hG hbase.1)) (by omega)).mono ?_
   rintro e w' ⟨rfl,rfl⟩
   have hdw:=bi_ HD.out.ok k
   obtain⟨b,hbb⟩:∃b,b=atw D k:=⟨_,rfl⟩
   rw[←hbb] at hdw ⊢
   have Hb:=hd_ hbb
   clear hbb
   obtain⟨y,hy⟩:∃y:Nat,(b:Int)+(s:Int)=(y:Int):=⟨b+s,by omega⟩
   have Hy:Hid (y=b+s):=hd_ (by omega)
   have hyb:y≤4294967296:=by omega
   by_cases hxy:u < y
   ·obtain⟨x,hx⟩:∃x:Nat,(u:Int)+4294967296=(x:Int):=⟨u+4294967296,by omega⟩
    obtain⟨r,hr⟩:∃r:Nat,(x:Int) - (y:Int)=(r:Int):=⟨x - y,by omega⟩
    have hrw:r < 4294967296:=by omega
    have HS:Hid (u+4294967296 * 1=b+s+r):=hd_ (by have:=Hy.out;omega)
    have HOs:=hd_ (HO.out.set k r hrw)
    have hGs:=hd_ (cs_ hG (ce_ _ g k (.int .u32 (r:Int))))
    go_wp2
    go_roundw
    case rel=>exact⟨k+1,1,R.set k r,by omega,by go_num,rfl,by omega,hd_ (js_ HL.out (by rw[HO.out.len];omega) (by rw[←Hu.out,←Hb.out];exact HS.out)),HOs,hGs.out⟩
    case measure=>simp[intOf];omega
   ·obtain⟨r,hr⟩:∃r:Nat,(u:Int) - (y:Int)=(r:Int):=⟨u - y,by omega⟩
    have hrw:r < 4294967296:=by omega
    have HS:Hid (u+4294967296 * 0=b+s+r):=hd_ (by have:=Hy.out;omega)
    have HOs:=hd_ (HO.out.set k r hrw)
    have hGs:=hd_ (cs_ hG (ce_ _ g k (.int .u32 (r:Int))))
    go_wp2
    go_roundw
    case rel=>exact⟨k+1,0,R.set k r,by omega,by go_num,rfl,by omega,hd_ (js_ HL.out (by rw[HO.out.len];omega) (by rw[←Hu.out,←Hb.out];exact HS.out)),HOs,hGs.out⟩
    case measure=>simp[intOf];omega
  ·obtain rfl:k=N:=by omega
   have Hfin:Hid (val R=val P - val D):=hd_ (tu_ HL.out HO.out.2 HO.out.len (by rw[HD.out.len];exact hm) hle.out)
   go_wp2
   go_end0
   exact⟨R,rfl,HO,hG,Hfin⟩
theorem ky_(x:Nat)(w:World)(hx:x < 4294967296):Calls Tryz.prog 174 #[.int .u32 (x:Int)] w fun e w'=>e=.returned (.int .i64 ((blen x:Nat):Int))∧w=w':=
 (limb_len (x:Int) w (by omega) (by omega)).mono fun e w' ⟨he,hw⟩=>⟨by rw[he];simp only[Int.toNat_natCast,mo_ (show x < 18446744073709551616 by omega)],hw⟩
theorem twos_len(a:OA_)(n cap:Nat)(l:List Nat)(w:World)(h:Wd w a n cap l)(hn:n≤17592183947264) :
 Calls Tryz.prog 183 #[.slice a n cap] w fun e w'=>e=.returned (.int .i64 ((blen (val l):Nat):Int))∧w=w':=by
 obtain⟨hb1,hb2⟩:=h.bound
 have H:=hd_ h
 clear h
 go_enter Tryz.func183,Tryz.ntmps183
 go_wp2
 go_loop [3] (fun i=>∃k:Nat,k≤n∧i=.int .i64 ((k:Int) - 1)∧Hid (top l k=0)) (fun i=>(intOf i+1).toNat)
 case atStart=>exact⟨n,by omega,by go_num,hd_ (fl_ (by have:=H.out.len;omega))⟩
 case round=>
  obtain⟨k,hk,rfl,Ht⟩:=hrel
  cases k with
  | zero=>
    have Hv:Hid (blen (val l)=0):=hd_ (by rw[←ek_,Ht.out];rfl)
    go_wp2
    go_ret
    exact⟨d7_ (by rw[Hv.out];rfl),rfl⟩
  | succ k=>
    have e1:((k+1:Nat):Int) - 1=(k:Int):=by omega
    rw[e1]
    clear e1
    obtain⟨b,off,rfl,hc⟩:=H.out.at (by omega)
    have hck:=hc k (by omega)
    have hx:=bi_ H.out.ok k
    clear hc
    by_cases hz:atw l k=0
    ·have hzb:(((atw l k:Nat):Int) == 0)=true:=by simp[hz]
     have Hz:=hd_ hz
     clear hz
     go_wp2
     go_round
     case rel=>exact⟨k,by omega,by go_num,hd_ (by rw[b6_,Hz.out,Ht.out])⟩
     case measure=>simp[intOf]
    ·have hzb:(((atw l k:Nat):Int) == 0)=false:=by simp[hz]
     have Hfin:=hd_ (lq_ H.out.ok Ht.out hz)
     have hbl:blen (atw l k)≤32:=blen_le.2 (bi_ H.out.ok k)
     clear hz
     go_wp2_with fail
     refine (ky_ _ _ hx).mono ?_
     rintro e w' ⟨rfl,rfl⟩
     generalize blen (atw l k)=y at *
     go_wp2
     go_ret
     exact⟨d7_ (by rw[Hfin.out];omega),rfl⟩
theorem pi_(a:OA_)(n cap:Nat)(l:List Nat)(i:Nat)(w:World)(h:Wd w a n cap l)(hi:i≤9223372036854775807) :
 Calls Tryz.prog 158 #[.slice a n cap,.int .i64 (i:Int)] w fun e w'=>e=.returned (.bool ((val l).testBit i))∧w=w':=by
 obtain⟨hb1,hb2⟩:=h.bound
 have H:=hd_ h
 clear h
 by_cases hlt:i / 32 < n
 ·obtain⟨b,off,rfl,hc⟩:=H.out.at (by omega)
  have hck:=hc (i / 32) hlt
  have hx:=bi_ H.out.ok (i / 32)
  clear hc
  have Hfin:Hid ((val l).testBit i=decide (atw l (i / 32) / 2 ^ (i % 32) % 2=1)):=hd_ (low_bit l H.out.ok i)
  obtain⟨x,hxx⟩:∃x,x=atw l (i / 32):=⟨_,rfl⟩
  rw[←hxx] at hck hx Hfin
  clear hxx
  go_enter Tryz.func158,Tryz.ntmps158
  go_wp2
  go_loop [5,6] (fun xv kv=>∃k y:Nat,k≤i % 32∧kv=.int .i64 (k:Int)∧xv=.int .u32 (y:Int)∧y < 4294967296∧Hid (y=x / 2 ^ k)) (fun _ kv=>32 - (intOf kv).toNat)
  case atStart=>exact⟨0,x,by omega,rfl,rfl,hx,hd_ (by simp)⟩
  case round=>
   obtain⟨k,y,hk,rfl,rfl,hy,Hy⟩:=hrel
   by_cases hkr:k < i % 32
   ·have hki:(k:Int) < (i:Int) % 32:=by omega
    go_wp2
    go_round
    case rel=>exact⟨k+1,y / 2,by omega,by go_num,by go_num,by omega,hd_ (by rw[Hy.out,Nat.pow_succ,Nat.div_div_eq_div_mul])⟩
    case measure=>simp[intOf];omega
   ·have hki:(i:Int) % 32≤(k:Int):=by omega
    have Hk:Hid (k=i % 32):=hd_ (by omega)
    clear hkr
    go_wp2
    go_ret
    exact⟨fp_ (by
     rw[Hfin.out,←Hk.out,←Hy.out,Bool.eq_iff_iff,beq_iff_eq,decide_eq_true_eq];omega),rfl⟩
 ·have Hv:Hid ((val l).testBit i=false):=hd_ (by rw[val_bit H.out.ok,it_ (by have:=H.out.len;omega)];simp)
  go_enter Tryz.func158,Tryz.ntmps158
  go_wp2
  go_ret
  exact⟨fp_ Hv.out.symm,rfl⟩
theorem ref03_len(a:OA_)(n cap:Nat)(l:List Nat)(w:World)(h:Wd w a n cap l)(hn:n≤17592183947264) :
 Calls Tryz.prog 138 #[.slice a n cap] w fun e w'=>e=.returned (.int .i64 ((blen (val l):Nat):Int))∧w=w':=by
 obtain⟨hb1,hb2⟩:=h.bound
 have H:=hd_ h
 clear h
 go_enter Tryz.func138,Tryz.ntmps138
 go_wp2
 go_loop [3] (fun kv=>∃k:Nat,k≤32 * n∧kv=.int .i64 (k:Int)∧Hid (val l < 2 ^ k)) (fun kv=>(intOf kv).toNat)
 case atStart=>exact⟨32 * n,by omega,by go_num,hd_ (by rw[←i6_,←H.out.len];exact ee_ H.out.ok)⟩
 case round=>
  obtain⟨k,hk,rfl,Hv⟩:=hrel
  cases k with
  | zero=>
    have Hfin:Hid (blen (val l)=0):=hd_ (by have:=blen_le.2 Hv.out;omega)
    go_wp2
    go_ret
    exact⟨d7_ (by rw[Hfin.out];rfl),rfl⟩
  | succ p=>
    go_wp2_with fail
    refine (pi_ _ _ _ _ p _ H.out (by omega)).mono ?_
    rintro e w' ⟨rfl,rfl⟩
    cases hb:(val l).testBit p with
    | true=>
      have Hfin:Hid (blen (val l)=p+1):=hd_ (p7_ Hv.out (.inr (by rw[Nat.add_sub_cancel];exact Nat.ge_two_pow_of_testBit hb)))
      clear hb
      go_wp2
      go_ret
      exact⟨d7_ (by rw[Hfin.out];omega),rfl⟩
    | false=>
      have Hlt:Hid (val l < 2 ^ p):=hd_ (lt_of_bit Hv.out hb)
      clear hb
      go_wp2
      go_round
      case rel=>exact⟨p,by omega,by go_num,Hlt⟩
      case measure=>simp[intOf]
def h0_ (A B:Nat) (Q R:List Nat) (k:Nat):Prop:=A / 2 ^ k=val Q * B+val R∧val R < B
theorem v1_{A B n m:Nat}(hB:0 < B):h0_ A B (List.replicate n 0) (List.replicate m 0) (blen A):=by
 refine ⟨?_,by rw[fg_];exact hB⟩
 rw[fg_,fg_,Nat.div_eq_of_lt (kb_ A)]
 simp
theorem qy_(A k:Nat):A / 2 ^ k=2 * (A / 2 ^ (k+1))+(if A.testBit k=true then 1 else 0):=by
 have h1:A / 2 ^ (k+1)=A / 2 ^ k / 2:=by rw[Nat.pow_succ,Nat.div_div_eq_div_mul]
 have h2:A.testBit k=decide (A / 2 ^ k % 2=1):=Nat.testBit_eq_decide_div_mod_eq
 rw[h1,h2]
 by_cases h:A / 2 ^ k % 2=1
 ·rw[decide_eq_true h,if_pos rfl];omega
 ·rw[decide_eq_false h,if_neg (by simp)];omega
theorem bits_rest{A B m:Nat}{Q R R2:List Nat}{k z c0:Nat}(h:h0_ A B Q R (k+1))(hB:B < 4294967296 ^ m)(h2:val R2+4294967296 ^ (m+1) * z=2 * val R+c0)(hc:c0≤1):val R2=2 * val R+c0:=by
 have h3:=h.2
 rw[cg_] at h2
 rcases Nat.eq_zero_or_pos z with h0 | h0
 ·subst h0;omega
 ·have h4:4294967296 * 4294967296 ^ m * 1≤4294967296 * 4294967296 ^ m * z:=Nat.mul_le_mul_left _ h0
  generalize 4294967296 * 4294967296 ^ m * z=a1 at *
  generalize 4294967296 ^ m=a2 at *
  omega
theorem bits_quot{A B n:Nat}{Q R Q2:List Nat}{k z:Nat}(h:h0_ A B Q R (k+1))(hA:A < 4294967296 ^ n)(h2:val Q2+4294967296 ^ n * z=2 * val Q+0):val Q2=2 * val Q:=by
 have h3:=h.1
 have h4:=h.2
 have h5:2 * (A / 2 ^ (k+1))≤A:=by
  have h6:=Nat.div_mul_le_self A (2 ^ (k+1))
  rw[Nat.pow_succ] at *
  have h7:=Nat.two_pow_pos k
  have h8:A / (2 ^ k * 2) * 2≤A / (2 ^ k * 2) * (2 ^ k * 2):=Nat.mul_le_mul_left _ (by omega)
  omega
 have h9:val Q * 1≤val Q * B:=Nat.mul_le_mul_left _ (by omega)
 rcases Nat.eq_zero_or_pos z with h0 | h0
 ·subst h0;omega
 ·have h10:4294967296 ^ n * 1≤4294967296 ^ n * z:=Nat.mul_le_mul_left _ h0
  generalize 4294967296 ^ n * z=a1 at *
  generalize 4294967296 ^ n=a2 at *
  generalize val Q * B=a3 at *
  omega
theorem bits_no{A B:Nat}{Q R Q2 R2:List Nat}{k c0:Nat}(h:h0_ A B Q R (k+1))(hc:c0=if A.testBit k=true then 1 else 0)(hq:val Q2=2 * val Q)(hr:val R2=2 * val R+c0)(hlt:val R2 < B):h0_ A B Q2 R2 k:=by
 refine ⟨?_,hlt⟩
 rw[qy_,←hc,h.1,hq,hr,Nat.mul_add,Nat.mul_assoc]
 omega
theorem bits_yes{A B:Nat}{Q R Q2 R2 R3:List Nat}{k c0:Nat}(h:h0_ A B Q R (k+1))(hc:c0=if A.testBit k=true then 1 else 0)(hc1:c0≤1)(hq:val Q2=2 * val Q)(hr:val R2=2 * val R+c0)(hge:B≤val R2)(h3:val R3=val R2 - B)(hl:0 < Q2.length)(ho:okw Q2) :
 h0_ A B (Q2.set 0 (atw Q2 0+1)) R3 k∧atw Q2 0+1 < 4294967296:=by
 have e1:=f1_ Q2 0 (atw Q2 0+1) hl
 rw[Nat.pow_zero,Nat.one_mul,Nat.one_mul] at e1
 have e2:val (Q2.set 0 (atw Q2 0+1))=2 * val Q+1:=by omega
 have h4:=h.2
 refine ⟨⟨?_,by omega⟩,?_⟩
 ·rw[qy_,←hc,h.1,e2,Nat.mul_add,Nat.add_mul,Nat.mul_assoc,h3,hr]
  omega
 ·have h5:=b6_ Q2 0
  rw[ek_,hq] at h5
  have h6:=bi_ ho 0
  omega
theorem tv_{A B:Nat}{Q R:List Nat}(h:h0_ A B Q R 0):val Q=A / B∧val R=A % B:=by
 have h1:=h.1
 have h2:=h.2
 rw[Nat.pow_zero,Nat.div_one] at h1
 rw[h1,Nat.mul_comm,Nat.mul_add_div (by omega),Nat.mul_add_mod,Nat.div_eq_of_lt h2,Nat.mod_eq_of_lt h2]
 omega
def Div5Post (p q:Nat) (w:World) (e:Ending) (w':World):Prop:=
 ∃(a:OA_) (n cap:Nat) (b:OA_) (m cap':Nat),e=.returned (.tuple #[.slice a n cap,.slice b m cap'])∧Wd w' a n cap (dg p)∧Hid (w'.ownsRow w.heap.size 81 1 (.slice b m cap') m (cf_ (dg q)))∧Below w.heap.size w w'
theorem ref05_div(a:OA_)(n cap:Nat)(la:List Nat)(b:OA_)(m cap':Nat)(lb:List Nat)(w:World)(ha:Wd w a n cap la)(hb:Wd w b m cap' lb)(hn:n≤524288000000)(hm:m≤524288000000)(h0:Hid (val lb≠0)) :
 Calls Tryz.prog 105 #[.slice a n cap,.slice b m cap'] w (Div5Post (val la / val lb) (val la % val lb) w):=by
 obtain⟨i0,hi,hz0,hz1,hz2⟩:=info_parts ii_
 have Ha:=hd_ ha
 have Hb:=hd_ hb
 have hbl:blen (val la)≤32 * n:=blen_le.2 (by rw[←i6_,←ha.len];exact ee_ ha.ok)
 clear ha hb
 obtain⟨M,hM⟩:∃M:Nat,(m:Int)+1=(M:Int):=⟨m+1,by omega⟩
 have HM:Hid (M=m+1):=hd_ (by omega)
 have hMb:M≤524288000001:=by omega
 go_enter Tryz.func105,Tryz.ntmps105
 go_wp2_with (first
  | (at_make;refine cc_ _ rfl _ _ 25 rfl w.heap.size 81 i0 (.int .u32 0) Tryz.underlying25 hi hz0 hz1 rfl .i64 .i64 _ _ n n rfl rfl rfl rfl (Nat.le_refl _) (by rw[hz2];omega) (by unfold maxLen;omega) (Nat.le_refl _) ?_;intro w1 hown1 hgrow1;rw[dy_] at hown1;have HQ1:Hid (Own w1 w.heap.size w.heap.size n n (List.replicate n 0)):=hd_ ⟨hown1,ff_ n⟩;have hB1:Below w.heap.size w w1:=(Below.refl _ _).grown hgrow1 (Nat.le_refl _) (fun k hk=>by cases hk);clear hown1 hgrow1)
  | (at_make;refine cc_ _ rfl _ _ 25 rfl w.heap.size 81 i0 (.int .u32 0) Tryz.underlying25 hi hz0 hz1 rfl .i64 .i64 _ _ M M rfl rfl rfl rfl (Nat.le_refl _) (by rw[hz2];omega) (by unfold maxLen;omega) hB1.size ?_;intro w2 hown2 hgrow2;rw[dy_] at hown2;have HR2:Hid (Own w2 w.heap.size w1.heap.size M M (List.replicate M 0)):=hd_ ⟨hown2,ff_ M⟩;have hB2:Below w.heap.size w w2:=hB1.grown hgrow2 hB1.size (fun k hk=>by cases hk);have HQ2:Hid (Own w2 w.heap.size w.heap.size n n (List.replicate n 0)):=hd_ (HQ1.out.stay hgrow2);clear hown2 hgrow2))
 have hne:w.heap.size≠w1.heap.size:=by have:=HQ1.out.base;omega
 generalize hgq:w.heap.size=base at *
 have hbq:=HQ2.out.base
 have hbr:=HR2.out.base
 have hBw:=hd_ hB2
 generalize w1.heap.size=gr at *
 clear HQ1 hB1 hB2
 obtain⟨B,HB⟩:∃B,Hid (B=val lb):=⟨_,rfl⟩
 obtain⟨A,HA⟩:∃A,Hid (A=val la):=⟨_,rfl⟩
 rw[←HB.out] at h0 ⊢
 rw[←HA.out] at hbl ⊢
 have HAn:Hid (A < 4294967296 ^ n):=hd_ (by rw[HA.out,←Ha.out.len];exact ee_ Ha.out.ok)
 have HBm:Hid (B < 4294967296 ^ m):=hd_ (by rw[HB.out,←Hb.out.len];exact ee_ Hb.out.ok)
 have HAb:Hid (∀k,A.testBit k=decide (atw la (k / 32) / 2 ^ (k % 32) % 2=1)):=hd_ (fun k=>by rw[HA.out];exact low_bit la Ha.out.ok k)
 have HS:=hd_ (v1_ (A:=A) (n:=n) (m:=M) (Nat.pos_of_ne_zero h0.out))
 rw[←hgq] at *
 refine (ref03_len _ _ _ _ _ (Ha.out.later hBw.out) (by omega)).mono ?_
 rintro e w' ⟨rfl,rfl⟩
 rw[←HA.out]
 generalize blen A=y at *
 go_wp2
 go_loopw [8] (fun iv wr=>∃(k:Nat) (Q R:List Nat),k≤y∧iv=.int .i64 ((k:Int) - 1)∧Hid (h0_ A B Q R k)∧Hid (Own wr w.heap.size w.heap.size n n Q)∧Hid (Own wr w.heap.size gr M M R)∧Below w.heap.size w wr) (fun iv _=>(intOf iv+1).toNat)
 case atStart=>exact⟨y,List.replicate n 0,List.replicate M 0,by omega,by go_num,HS,HQ2,HR2,hBw.out⟩
 case round=>
  clear HQ2 HR2 hBw HS
  obtain⟨k,Q,R,hk,rfl,HD,HQ,HR,hBr⟩:=hrel
  cases k with
  | zero=>
    have Hq:Hid (val Q=A / B):=hd_ (tv_ HD.out).1
    have Hr:Hid (val R=A % B):=hd_ (tv_ HD.out).2
    have HRw:=hd_ HR.out.wd
    clear HD
    go_wp2_with fail
    refine (du_ _ _ _ _ _ HQ.out.wd (by omega)).mono ?_
    rintro e w5 ⟨a5,n5,c5,rfl,h5,b5⟩
    rw[Hq.out] at h5
    have H5:=hd_ h5
    have HR5:=HRw.l_ b5
    have hb5:=ab_ hBr b5
    clear h5 HRw
    go_wp2_with fail
    refine (fc_ _ _ _ _ _ HR5.out (by omega)).mono ?_
    rintro e w6 ⟨a6,n6,c6,rfl,h6,b6⟩
    rw[Hr.out] at h6
    have H6:=hd_ (pj_ h6 hb5.size)
    have H5b:=H5.l_ b6
    clear h6
    go_wp2
    go_ret2
    exact⟨a5,n5,c5,a6,n6,c6,rfl,by rw[←HA.out,←HB.out];exact H5b.out,by rw[←HA.out,←HB.out];exact H6,ab_ hb5 b6⟩
  | succ k=>
    have e1:((k+1:Nat):Int) - 1=(k:Int):=by omega
    rw[e1]
    clear e1
    obtain⟨q,hq⟩:∃q:Nat,(k:Int) / 32=(q:Int):=⟨k / 32,by omega⟩
    obtain⟨r,hr⟩:∃r:Nat,(k:Int) % 32=(r:Int):=⟨k % 32,by omega⟩
    have Hqr:Hid (k / 32=q∧k % 32=r):=hd_ (by omega)
    have hr31:r < 32:=by omega
    obtain⟨ba,oa,rfl,hca⟩:=(Ha.out.later hBr).at (by omega)
    have hcq:=hca q (by omega)
    have hxw:=bi_ Ha.out.ok q
    have hbit:=HAb.out k
    rw[Hqr.out.1,Hqr.out.2] at hbit
    obtain⟨x,hx⟩:∃x,x=atw la q:=⟨_,rfl⟩
    rw[←hx] at hcq hxw hbit
    obtain⟨P,HP,hP⟩:∃P:Nat,Hid (P=2 ^ r)∧(2:Int) ^ r=(P:Int):=⟨2 ^ r,rfl,by simp⟩
    have hPb:P < 4294967296:=by rw[HP.out];exact Nat.lt_of_le_of_lt (Nat.pow_le_pow_right (by decide) (show r≤31 by omega)) (by decide)
    have hP0:0 < P:=by rw[HP.out];exact Nat.two_pow_pos r
    rw[←HP.out] at hbit
    obtain⟨z,hz⟩:∃z:Nat,(x:Int) / (P:Int)=(z:Int):=⟨x / P,by rw[Int.natCast_ediv]⟩
    have Hz:Hid (x / P=z):=hd_ (by rw[←Int.natCast_ediv] at hz;omega)
    rw[Hz.out] at hbit
    obtain⟨tb,htb⟩:∃tb,((z:Int) % 2 == 1)=tb:=⟨_,rfl⟩
    have HT:Hid (A.testBit k=tb):=hd_ (by rw[hbit,←htb,Bool.eq_iff_iff,beq_iff_eq,decide_eq_true_eq];omega)
    have hqi:(q:Int) < (n:Int):=by omega
    have hzw:z < 4294967296:=by rw[←Hz.out];exact Nat.lt_of_le_of_lt (Nat.div_le_self _ _) hxw
    obtain⟨c0,hc0⟩:∃c0:Nat,c0=if tb=true then 1 else 0:=⟨_,rfl⟩
    have Hc0:=hd_ hc0
    have hc1:c0≤1:=by rw[hc0];split <;> omega
    have HQd:Hid (Own wr.drew w.heap.size w.heap.size n n Q):=hd_ HQ.out
    have HRd:Hid (Own wr.drew w.heap.size gr M M R):=hd_ HR.out
    have HBd:Hid (Below w.heap.size w wr.drew):=hd_ hBr.drew
    have hw1:IntKind.i64.wrap (q:Int)=(q:Int):=by rw[IntKind.wrap_i64];omega
    have hw2:IntKind.i64.wrap (r:Int)=(r:Int):=by rw[IntKind.wrap_i64];omega
    have hw3:IntKind.u32.wrap (P:Int)=(P:Int):=by rw[IntKind.wrap_u32];omega
    have hw4:IntKind.u32.wrap (z:Int)=(z:Int):=by rw[IntKind.wrap_u32];omega
    have hw5:IntKind.u32.wrap ((z:Int) % 2)=(z:Int) % 2:=by rw[IntKind.wrap_u32];omega
    have hP1:¬P=0:=by omega
    have hw6:(k:Int).tmod 32=(r:Int):=by rw[Int.tmod_eq_emod_of_nonneg (by omega)];exact hr
    have hw7:(x:Int).tdiv (P:Int)=(z:Int):=by rw[Int.tdiv_eq_ediv_of_nonneg (by omega)];exact hz
    have hw8:(z:Int).tmod 2=(z:Int) % 2:=Int.tmod_eq_emod_of_nonneg (by omega)
    clear hca hbit hx hc0
    go_wp2_with fail
    refine wp_region_still_tail 12 (by kernel_rfl) (by kernel_rfl) ?_
    simp only[List.take_succ_cons,List.take_zero,List.drop_succ_cons,List.drop_zero]
    repeat still_step
    refine wpStill_nil ?_
    change wpList _ _ _ _ _ wr.drew
    generalize wr.drew=wd at *
    clear hBr HQ HR hw1 hw2 hw3 hw4 hw5 hw6 hw7 hw8
    go_wp2_with fail
    refine (k3_ _ _ _ _ _ tb R _ HRd.out (by omega) Hc0.out).mono ?_
    rintro e w3 ⟨R2,z2,rfl,HR3,hG3,HV3⟩
    have hB3:=hd_ (cp_ HBd.out hG3 hbr.1)
    have HQ3:=hd_ (HQd.out.other hG3 hne)
    have HVr:Hid (val R2=2 * val R+c0):=hd_ (bits_rest HD.out HBm.out (by have:=HV3.out;rwa [HM.out] at this) hc1)
    clear hG3 HRd HQd HBd HV3
    go_wp2_with fail
    refine (k3_ _ _ _ _ 0 false Q _ HQ3.out (by omega) rfl).mono ?_
    rintro e w4 ⟨Q2,z3,rfl,HQ4,hG4,HV4⟩
    have hB4:=hd_ (cp_ hB3.out hG4 hbq.1)
    have HR4:=hd_ (HR3.out.other hG4 (Ne.symm hne))
    have HVq:Hid (val Q2=2 * val Q):=hd_ (bits_quot HD.out HAn.out HV4.out)
    clear hG4 HV4 HQ3 HR3 hB3
    go_wp2_with fail
    refine (mm_ _ _ _ _ _ _ _ _ _ HR4.out.wd (Hb.out.later hB4.out) (by omega) (by omega)).mono ?_
    rintro e w5 ⟨rfl,rfl⟩
    rw[←HB.out]
    by_cases hlt:val R2 < B
    ·have hc:cmpI (val R2) B < 0:=by rw[fv_ hlt];omega
     have HDn:Hid (h0_ A B Q2 R2 k):=hd_ (bits_no HD.out (by rw[HT.out];exact Hc0.out) HVq.out HVr.out hlt)
     clear hlt
     generalize cmpI (val R2) B=c at *
     go_wp2
     go_roundw
     case rel=>exact⟨k,Q2,R2,by omega,by go_num,HDn,HQ4,HR4,hB4.out⟩
     case measure=>simp[intOf]
    ·have hc:¬cmpI (val R2) B < 0:=by unfold cmpI;split <;> (try split) <;> omega
     have Hge:Hid (val lb≤val R2):=hd_ (by rw[←HB.out];omega)
     have Hge2:Hid (B≤val R2):=hd_ (by omega)
     clear hlt
     generalize cmpI (val R2) B=c at *
     go_wp2_with fail
     refine (v2_ w _ _ _ _ R2 _ _ _ lb HR4.out hB4.out Hb.out (by omega) (by omega) Hge).mono ?_
     rintro e w6 ⟨R3,rfl,HR6,hG6,HV6⟩
     have HB6:=hd_ (cp_ hB4.out hG6 hbr.1)
     have HQ6:=hd_ (HQ4.out.other hG6 hne)
     have HDn:=hd_ (bits_yes HD.out (by rw[HT.out];exact Hc0.out) hc1 HVq.out HVr.out Hge2.out (by rw[HV6.out,←HB.out]) (by rw[HQ4.out.len];omega) HQ4.out.2)
     have hcell:=HQ6.out.cell (k:=0) (by omega)
     have hfro:=HQ6.out.1.frozenAt 0
     have huw:=HDn.out.2
     obtain⟨u,huu⟩:∃u,u=atw Q2 0:=⟨_,rfl⟩
     rw[←huu] at hcell huw
     have HDn2:Hid (h0_ A B (Q2.set 0 (u+1)) R3 k):=hd_ (by rw[huu];exact HDn.out.1)
     have HQ7:=hd_ (HQ6.out.set 0 (u+1) huw)
     have HR7:=hd_ (HR6.out.other (ce_ w6 w.heap.size 0 (.int .u32 ((u+1:Nat):Int))) (Ne.symm hne))
     have HB7:=hd_ (HB6.out.setCell (p:=⟨w.heap.size,0,none⟩) hbq.1 (.int .u32 ((u+1:Nat):Int)))
     clear huu HDn hG6 HQ4 HR4 hB4 HB6 HR6 HQ6
     go_wp2
     go_roundw
     case rel=>exact⟨k,Q2.set 0 (u+1),R3,by omega,by go_num,HDn2,HQ7,HR7,HB7.out⟩
     case measure=>simp[intOf]
theorem s6_(m:Nat)(w:World)(h0:0 < m)(h1:m < 4294967296) :
 Calls Tryz.prog 136 #[.int .u32 (m:Int)] w fun e w'=>e=.returned (.int .i64 ((tz m:Nat):Int))∧w=w':=by
 have ht:(((m:Nat):Int) == 0)=false:=by simp;omega
 have hz:tz m < 32:=tz_lt (by omega) h1
 go_enter Tryz.func136,Tryz.ntmps136
 go_wp2
 go_loop [0,3] (fun x n=>∃a g:Nat,0 < a∧a < 4294967296∧g≤32∧Hid (g+tz a=tz m)∧x=.int .u32 a∧n=.int .i64 g) (fun x _=>(intOf x).toNat)
 case atStart=>exact⟨m,0,h0,h1,by omega,hd_ (by omega),rfl,rfl⟩
 case round=>
  obtain⟨a,g,ha,ha1,hg,Hl,rfl,rfl⟩:=hrel
  by_cases he:a % 2=0
  ·have hb:(((a:Nat):Int) % 2 == 0)=true:=by rw[beq_iff_eq];omega
   have He:=hd_ he
   have Hs:=hd_ (su_ (n:=a) (by omega) he)
   have hg2:g < 32:=by have:=Hs.out;have:=Hl.out;omega
   clear he
   go_wp2
   go_round
   case rel=>exact⟨a / 2,g+1,by have:=He.out;omega,by omega,by omega,hd_ (by have:=Hs.out;have:=Hl.out;omega),by go_num,by go_num⟩
   case measure=>simp[intOf];omega
  ·have hb:(((a:Nat):Int) % 2 == 0)=false:=by rw[beq_eq_false_iff_ne];omega
   have Hs:=hd_ (tz_odd (n:=a) (by omega))
   clear he
   go_wp2
   go_ret
   exact⟨d7_ (by have:=Hl.out;have:=Hs.out;omega),rfl⟩
def LessWin (base g off n:Nat) (P D:List Nat) (w:World) (e:Ending) (w':World):Prop:=
 ∃(P':List Nat),e=.returned (.tuple #[])∧Hid (Win w' base g off n P')∧w.grownBy w' (some g)∧Hid (val P'=val P - val D)
theorem iv_(base:Nat)(w:World)(g off n c:Nat)(P:List Nat)(d:OA_)(m dcap:Nat)(D:List Nat)(hO:Win w base g off n P)(hd:Wd w d m dcap D)(hne:Hid (∀ad:Addr,d=some ad→some ad.block≠some g))(hN:n≤2097152000000)(hm:m≤n)(hle:Hid (val D≤val P)) :
 Calls Tryz.prog 103 #[.slice (some ⟨g,off,none⟩) n c,.slice d m dcap] w (LessWin base g off n P D w):=by
 have HO0:=hd_ hO
 have HPo:=hd_ hO.ok
 have HD:=hd_ hd
 clear hO hd
 go_enter Tryz.func103,Tryz.ntmps103
 go_wp2
 go_loopw [4,5] (fun sv kv wr=>∃(k s:Nat) (R:List Nat),k≤n∧kv=.int .i64 (k:Int)∧sv=.int .u64 (s:Int)∧s≤1∧Hid (or_ P D R k s)∧Hid (Win wr base g off n R)∧w.grownBy wr (some g)) (fun _ kv _=>n - (intOf kv).toNat)
 case atStart=>exact⟨0,0,P,by omega,rfl,rfl,by omega,hd_ (ov_ _ _),HO0,e8_ _ _⟩
 case round=>
  obtain⟨k,s,R,hk,rfl,rfl,hs,HL,HO,hG⟩:=hrel
  by_cases hlt:k < n
  ·have hcell:=HO.out.cell (k:=k) hlt
   rw[HL.out.2 k (Nat.le_refl _)] at hcell
   have hfro:=HO.out.frozen k
   have huw:=bi_ HPo.out k
   obtain⟨u,huu⟩:∃u,u=atw P k:=⟨_,rfl⟩
   rw[←huu] at huw hcell
   have Hu:=hd_ huu
   have hki:(k:Int) < (n:Int):=by omega
   clear huu
   go_wp2_with fail
   refine (dc_ _ _ _ k _ _ (HD.out.kept hG hne.out) (by omega)).mono ?_
   rintro e w' ⟨rfl,rfl⟩
   have hdw:=bi_ HD.out.ok k
   obtain⟨b,hbb⟩:∃b,b=atw D k:=⟨_,rfl⟩
   rw[←hbb] at hdw ⊢
   have Hb:=hd_ hbb
   clear hbb
   obtain⟨y,hy⟩:∃y:Nat,(b:Int)+(s:Int)=(y:Int):=⟨b+s,by omega⟩
   have Hy:Hid (y=b+s):=hd_ (by omega)
   have hyb:y≤4294967296:=by omega
   by_cases hxy:u < y
   ·obtain⟨x,hx⟩:∃x:Nat,(u:Int)+4294967296=(x:Int):=⟨u+4294967296,by omega⟩
    obtain⟨r,hr⟩:∃r:Nat,(x:Int) - (y:Int)=(r:Int):=⟨x - y,by omega⟩
    have hrw:r < 4294967296:=by omega
    have HS:Hid (u+4294967296 * 1=b+s+r):=hd_ (by have:=Hy.out;omega)
    have HOs:=hd_ (HO.out.set (k:=k) hrw)
    have hGs:=hd_ (cs_ hG (ce_ _ g (off+k) (.int .u32 (r:Int))))
    go_wp2
    go_roundw
    case rel=>exact⟨k+1,1,R.set k r,by omega,by go_num,rfl,by omega,hd_ (js_ HL.out (by rw[HO.out.len];omega) (by rw[←Hu.out,←Hb.out];exact HS.out)),HOs,hGs.out⟩
    case measure=>simp[intOf];omega
   ·obtain⟨r,hr⟩:∃r:Nat,(u:Int) - (y:Int)=(r:Int):=⟨u - y,by omega⟩
    have hrw:r < 4294967296:=by omega
    have HS:Hid (u+4294967296 * 0=b+s+r):=hd_ (by have:=Hy.out;omega)
    have HOs:=hd_ (HO.out.set (k:=k) hrw)
    have hGs:=hd_ (cs_ hG (ce_ _ g (off+k) (.int .u32 (r:Int))))
    go_wp2
    go_roundw
    case rel=>exact⟨k+1,0,R.set k r,by omega,by go_num,rfl,by omega,hd_ (js_ HL.out (by rw[HO.out.len];omega) (by rw[←Hu.out,←Hb.out];exact HS.out)),HOs,hGs.out⟩
    case measure=>simp[intOf];omega
  ·obtain rfl:k=n:=by omega
   have Hfin:Hid (val R=val P - val D):=hd_ (tu_ HL.out HO.out.ok HO.out.len (by rw[HD.out.len];exact hm) hle.out)
   go_wp2
   go_end0
   exact⟨R,rfl,HO,hG,Hfin⟩
def DownPost (base g off c v:Nat) (w:World) (e:Ending) (w':World):Prop:=
 ∃n',e=.returned (.slice (some ⟨g,off,none⟩) n' c)∧n'≤c∧Hid (Win w' base g off n' (dg v))∧w.grownBy w' (some g)
theorem uv_(base:Nat)(w:World)(g off n c s:Nat)(L:List Nat)(hO:Win w base g off n L)(hs:s≤31)(hn:n≤2097152000000)(hc:n≤c)(hc2:c≤9223372036854775807) :
 Calls Tryz.prog 137 #[.slice (some ⟨g,off,none⟩) n c,.int .i64 (s:Int)] w (DownPost base g off c (val L / 2 ^ s) w):=by
 have HO0:=hd_ hO
 have HLo:=hd_ hO.ok
 have HLl:=hd_ hO.len
 clear hO
 go_enter Tryz.func137,Tryz.ntmps137
 go_wp2
 go_loopw [5] (fun kv wr=>∃(k:Nat) (R:List Nat),k≤n∧kv=.int .i64 (k:Int)∧Hid (ke_ L R s k)∧Hid (Win wr base g off n R)∧w.grownBy wr (some g)) (fun kv _=>n - (intOf kv).toNat)
 case atStart=>exact⟨0,L,by omega,rfl,hd_ (so_ _ _),HO0,e8_ _ _⟩
 case round=>
  obtain⟨k,R,hk,rfl,HS,HO,hG⟩:=hrel
  by_cases hlt:k < n
  ·have hcell:=HO.out.cell (k:=k) hlt
   rw[HS.out.2 k (Nat.le_refl _)] at hcell
   have hfro:=HO.out.frozen k
   have huw:=bi_ HLo.out k
   have hxw:=bi_ HLo.out (k+1)
   obtain⟨p,hp⟩:∃p:Nat,(k:Int)+1=(p:Int):=⟨k+1,by omega⟩
   have Hp:Hid (p=k+1):=hd_ (by omega)
   rw[←Hp.out] at hxw
   obtain⟨u,huu⟩:∃u,u=atw L k:=⟨_,rfl⟩
   obtain⟨x,hxx⟩:∃x,x=atw L p:=⟨_,rfl⟩
   rw[←huu] at huw hcell
   rw[←hxx] at hxw
   have Hu:=hd_ huu
   have Hx:=hd_ hxx
   obtain⟨t,ht⟩:∃t:Nat,(x:Int) * 4294967296+(u:Int)=(t:Int):=⟨x * 4294967296+u,by omega⟩
   have Ht:Hid (t=x * 4294967296+u):=hd_ (by omega)
   obtain⟨z,hz⟩:∃z:Nat,(t:Int) / 2 ^ s=(z:Int):=⟨t / 2 ^ s,by rw[Int.natCast_ediv,Int.natCast_pow];rfl⟩
   have Hz:Hid (z=t / 2 ^ s):=hd_ (by have:=gc_ t s;omega)
   obtain⟨r,hr⟩:∃r:Nat,(z:Int) % 4294967296=(r:Int):=⟨z % 4294967296,by omega⟩
   have Hr:Hid (r=z % 4294967296):=hd_ (by omega)
   have hrw:r < 4294967296:=by omega
   have htw:t < 18446744073709551616:=by omega
   have hzt:z≤t:=by rw[Hz.out];exact Nat.div_le_self _ _
   have hki:(k:Int) < (n:Int):=by omega
   have HOs:=hd_ (HO.out.set (k:=k) hrw)
   have hGs:=hd_ (cs_ hG (ce_ _ g (off+k) (.int .u32 (r:Int))))
   have HSn:Hid (ke_ L (R.set k r) s (k+1)):=hd_ (uy_ HS.out HLo.out (by omega) (by rw[HO.out.len];omega) (by
    rw[Hr.out,Hz.out,Ht.out,Hx.out,Hu.out,Hp.out]))
   clear huu
   by_cases hlast:p < n
   ·have hcell2:=HO.out.cell (k:=p) hlast
    rw[HS.out.2 p (by omega),←Hx.out] at hcell2
    have hpi:(p:Int) < (n:Int):=by omega
    clear hxx
    go_wp2
    go_roundw
    case rel=>exact⟨p,R.set k r,by omega,by go_num,by rw[Hp.out];exact HSn,HOs,hGs.out⟩
    case measure=>simp[intOf];omega
   ·have hx0:x=0:=by rw[hxx];exact it_ (by rw[HLl.out];omega)
    have hpi:(n:Int)≤(p:Int):=by omega
    subst hx0
    have htu:t=u:=by omega
    subst htu
    have hrz:r=z:=by omega
    subst hrz
    clear hxx ht hr
    go_wp2
    go_roundw
    case rel=>exact⟨p,R.set k r,by omega,by go_num,by rw[Hp.out];exact HSn,HOs,hGs.out⟩
    case measure=>simp[intOf];omega
  ·obtain rfl:k=n:=by omega
   have Hv:=hd_ (shift_end HS.out HLo.out HLl.out HO.out.len)
   clear HS hlt
   go_wp2
   go_loop [0] (fun sv=>∃m:Nat,m≤k∧sv=.slice (some ⟨g,off,none⟩) m c∧Hid (top R m=0)) (fun sv=>k8_ sv)
   case atStart=>exact⟨k,by omega,rfl,hd_ (fl_ (by rw[HO.out.len];omega))⟩
   case round=>
    obtain⟨m,hm,rfl,Ht⟩:=hrel
    cases m with
    | zero=>
      have HW:=hd_ (HO.out.take (m:=0) (by omega))
      have Hfin:Hid (R.take 0=dg (val L / 2 ^ s)):=hd_ (by rw[←Hv.out];exact gq_ (by omega) HO.out.ok Ht.out (.inl rfl))
      go_wp2
      go_ret
      exact⟨0,rfl,by omega,hd_ (by rw[←Hfin.out];exact HW.out),hG⟩
    | succ m=>
      have hcell:=HO.out.cell (k:=m) (by omega)
      have hyw:=bi_ HO.out.ok m
      by_cases hz:atw R m=0
      ·rw[hz] at hcell
       have Ht2:Hid (top R m=0):=hd_ (by rw[b6_,hz,Ht.out])
       clear hz
       go_wp2
       go_round
       case rel=>exact⟨m,by omega,by go_num,Ht2⟩
       case measure=>simp[k8_]
      ·have hzb:(((atw R m:Nat):Int) == 0)=false:=by simp[hz]
       have HW:=hd_ (HO.out.take (m:=m+1) hm)
       have Hfin:Hid (R.take (m+1)=dg (val L / 2 ^ s)):=hd_ (by rw[←Hv.out];exact gq_ (by rw[HO.out.len];exact hm) HO.out.ok Ht.out (.inr (by simpa using hz)))
       clear hz
       go_wp2
       go_ret
       exact⟨m+1,rfl,by omega,hd_ (by rw[←Hfin.out];exact HW.out),hG⟩
def OddPost (base g v:Nat) (w:World) (e:Ending) (w':World):Prop:=
 ∃off n c,e=.returned (.tuple #[.slice (some ⟨g,off,none⟩) n c,.int .i64 ((tz v:Nat):Int)])∧n≤c∧c≤9223372036854775807∧Hid (Win w' base g off n (dg (oddp v)))∧w.grownBy w' (some g)
theorem ji_(base:Nat)(w:World)(g off n c:Nat)(L:List Nat)(hO:Win w base g off n L)(hn:n≤2097152000000)(hc:n≤c)(hc2:c≤9223372036854775807)(h0:Hid (val L≠0)) :
 Calls Tryz.prog 101 #[.slice (some ⟨g,off,none⟩) n c] w (OddPost base g (val L) w):=by
 have HO:=hd_ hO
 have HLo:=hd_ hO.ok
 have HLl:=hd_ hO.len
 clear hO
 go_enter Tryz.func101,Tryz.ntmps101
 go_wp2
 go_loop [0,4] (fun sv tv=>∃q m:Nat,q+m=n∧sv=.slice (some ⟨g,off+q,none⟩) m (c - q)∧tv=.int .i64 ((32 * q:Nat):Int)∧Hid (low L q=0)) (fun sv _=>k8_ sv)
 case atStart=>exact⟨0,n,by omega,rfl,rfl,hd_ (cj_ L)⟩
 case round=>
  obtain⟨q,m,hqm,rfl,rfl,Hl⟩:=hrel
  have hqn:q < n:=by rw[←HLl.out];exact t9_ Hl.out h0.out
  have hcell:=HO.out.cell (k:=q) hqn
  have hyw:=bi_ HLo.out q
  have hm0:0 < m:=by omega
  by_cases hz:atw L q=0
  ·rw[hz] at hcell
   have Hl2:=hd_ (sb_ Hl.out hz)
   have hq1:q+1 < n:=by rw[←HLl.out];exact t9_ Hl2.out h0.out
   obtain⟨m1,rfl⟩:∃m1,m=m1+1:=⟨m - 1,by omega⟩
   have hcq:¬(c - q=1):=by omega
   clear hz
   go_wp2
   go_round
   case rel=>exact⟨q+1,m1,by omega,by first | rfl | (congr 1;omega),by go_num,Hl2⟩
   case measure=>simp[k8_]
  ·have hzb:(((atw L q:Nat):Int) == 0)=false:=by simp[hz]
   have hy0:0 < atw L q:=by omega
   have Htz:=hd_ (tz_low HLo.out Hl.out hz)
   have htl:tz (atw L q) < 32:=tz_lt hz hyw
   have HW:Hid (Win w base g (off+q) m (L.drop q)):=hd_ (by have h1:=HO.out;rw[←hqm] at h1;exact h1.drop)
   clear hz
   generalize atw L q=y at *
   have Hsh:Hid (val (L.drop q) / 2 ^ tz y=oddp (val L)):=hd_ (by unfold oddp;rw[Htz.out];exact q6_ HLo.out q (tz y))
   go_wp2_with fail
   refine (s6_ y _ hy0 hyw).mono ?_
   rintro e w' ⟨rfl,rfl⟩
   generalize tz y=t at *
   go_wp2_with fail
   refine (uv_ base _ g (off+q) m (c - q) t (L.drop q) HW.out (by omega) (by omega) (by omega) (by omega)).mono ?_
   rintro e w1 ⟨n',rfl,hn',HW1,hG⟩
   rw[Hsh.out] at HW1
   go_wp2
   go_ret2
   exact⟨off+q,n',c - q,by rw[Htz.out];rfl,hn',by omega,HW1,hG⟩
theorem ro_(b off n c:Nat)(l:List Nat)(t:Nat)(w:World)(h:Wd w (some ⟨b,off,none⟩) n c l)(hn:n≤1048576000000)(ht:t≤10485760000000) :
 Calls Tryz.prog 104 #[.slice (some ⟨b,off,none⟩) n c,.int .i64 (t:Int)] w (Lst (dg (val l * 2 ^ t)) w):=by
 obtain⟨i0,hi,hz0,hz1,hz2⟩:=info_parts ii_
 have H:=hd_ h
 have Hl:=hd_ h.len
 obtain⟨q,hq⟩:∃q:Nat,(t:Int) / 32=(q:Int):=⟨t / 32,by omega⟩
 obtain⟨r,hr⟩:∃r:Nat,(t:Int) % 32=(r:Int):=⟨t % 32,by omega⟩
 have Hqr:Hid (t=32 * q+r):=hd_ (by omega)
 have hr31:r < 32:=by omega
 have hqb:q≤419430400000:=by omega
 obtain⟨P,HP,hP⟩:∃P:Nat,Hid (P=2 ^ r)∧(2:Int) ^ r=(P:Int):=⟨2 ^ r,rfl,by simp⟩
 have hPb:P < 4294967296:=by rw[HP.out];exact Nat.lt_of_le_of_lt (Nat.pow_le_pow_right (by decide) (show r≤31 by omega)) (by decide)
 clear h
 go_enter Tryz.func104,Tryz.ntmps104
 go_wp2_with (first
  | (at_make;refine cc_ _ rfl _ _ 25 rfl w.heap.size 81 i0 (.int .u32 0) Tryz.underlying25 hi hz0 hz1 rfl .i64 .i64 _ _ q q rfl rfl rfl rfl (Nat.le_refl _) (by rw[hz2];omega) (by unfold maxLen;omega) (Nat.le_refl _) ?_;intro w1 hown1 hgrow1;rw[dy_] at hown1;have hB1:Below w.heap.size w w1:=(Below.refl _ _).grown hgrow1 (Nat.le_refl _) (fun k hk=>by cases hk);have H1:=H.l_ hB1;clear hgrow1)
  | (at_builtin;refine wpList_append_own _ rfl _ _ 25 rfl w.heap.size 81 i0 (.int .u32 0) 1 4 Tryz.underlying25 hi hz0 hz1 hz2 rfl (by decide) _ q (cf_ (List.replicate q 0)) rfl hown1 ⟨b,off,none⟩ n c (cf_ l) rfl (by rw[b0_,Hl.out,Nat.mul_one]) H1.out.cells (d3_ _) (by unfold maxLen;omega) (by omega) hB1.size ?_;intro v' w2 hown2 hgrow2 _))
 obtain⟨a2,c2,rfl⟩:=mk_ hown2
 rw[←pm_] at hown2
 have HO2:=hd_ (Wd.own hown2 (okw_append.2 ⟨ff_ q,H.out.ok⟩))
 have hB2:Below w.heap.size w w2:=hB1.grown hgrow2 hB1.size (fun k hk=>(hown1.lt k hk).1)
 have Hv:Hid (val (List.replicate q 0 ++ l) * val [P]=val l * 2 ^ t):=hd_ (by rw[HP.out,Hqr.out];exact vj_ l q r)
 clear hown1 hown2 hgrow2 hB1 H1 hq
 go_wp2_with fail
 refine (fh_ _ _ _ _ _ _ _ [P] _ (HO2.out.later (aa_ _ _)) (Wd.lit1 w2 81 (x:=P) hPb) (by omega) (by omega)).mono ?_
 rintro e w3 ⟨a3,n3,c3,rfl,h3,b3⟩
 rw[Hv.out] at h3
 have H3:=hd_ h3
 clear h3
 go_wp2
 go_ret
 exact⟨a3,n3,c3,rfl,H3.out,ab_ hB2 (ab_ (aa_ _ _) b3)⟩
def GcdRel (G base bound:Nat) (w0:World) (x y:Value) (wr:World):Prop:=
 ∃gx ox nx cx gy oy ny cy X Y,x=.slice (some ⟨gx,ox,none⟩) nx cx∧y=.slice (some ⟨gy,oy,none⟩) ny cy∧nx≤cx∧cx≤9223372036854775807∧ny≤cy∧cy≤9223372036854775807∧nx≤bound∧ny≤bound∧gx≠gy∧
  Hid (Win wr base gx ox nx (dg X))∧Hid (Win wr base gy oy ny (dg Y))∧Hid (X % 2=1∧Y % 2=1∧Nat.gcd X Y=G)∧Below base w0 wr
theorem win_lt{g off g':Nat}(hne:g≠g'):∀ad:Addr,some (⟨g,off,none⟩:Addr)=some ad→some ad.block≠some g':=by
 intro ad e h2
 simp only[Option.some.injEq] at e
 subst e
 exact hne (Option.some.inj h2)
theorem ref06_gcd(a:OA_)(n cap:Nat)(la:List Nat)(b:OA_)(m cap':Nat)(lb:List Nat)(w:World)(ha:Wd w a n cap la)(hb:Wd w b m cap' lb)(hn:n≤104857600000)(hm:m≤104857600000) :
 Calls Tryz.prog 58 #[.slice a n cap,.slice b m cap'] w (Lst (dg (Nat.gcd (val la) (val lb))) w):=by
 have hla:(dg (val la)).length≤n:=ha.trim_le
 have hlb:(dg (val lb)).length≤m:=hb.trim_le
 have hta:tz (val la)≤32 * n:=by
  by_cases h0:val la=0
  ·rw[h0,tz_zero];omega
  ·exact Nat.le_of_lt (tz_lt h0 (by rw[←i6_,←ha.len];exact ee_ ha.ok))
 have htb:tz (val lb)≤32 * m:=by
  by_cases h0:val lb=0
  ·rw[h0,tz_zero];omega
  ·exact Nat.le_of_lt (tz_lt h0 (by rw[←i6_,←hb.len];exact ee_ hb.ok))
 have Hb:=hd_ hb
 go_enter Tryz.func58,Tryz.ntmps58
 go_wp2_with fail
 refine (fc_ _ _ _ _ _ ha (by omega)).mono ?_
 rintro e w1 ⟨ax,nx,cx,rfl,hx,hB1⟩
 have Hx:=hd_ hx
 have hnx:nx≤104857600000:=by have h1:=hx.1;rw[b0_] at h1;omega
 have Hnx:Hid ((dg (val la)).length=nx):=hd_ (by have h1:=hx.1;rw[b0_] at h1;omega)
 have Hb1:=Hb.l_ hB1
 clear ha hb hx Hb
 go_wp2_with fail
 refine (fc_ _ _ _ _ _ Hb1.out (by omega)).mono ?_
 rintro e w2 ⟨ay,ny,cy,rfl,hy,hB2⟩
 have Hy:=hd_ hy
 have hny:ny≤104857600000:=by have h1:=hy.1;rw[b0_] at h1;omega
 have Hny:Hid ((dg (val lb)).length=ny):=hd_ (by have h1:=hy.1;rw[b0_] at h1;omega)
 have Hx2:=hd_ (p4_ Hx.out hB2)
 have hB12:=ab_ hB1 hB2
 clear hy hla hlb Hb1
 by_cases hx0:nx=0
 ·subst hx0
  have HG:Hid (Nat.gcd (val la) (val lb)=val lb):=hd_ (by rw[dg_nil_iff.1 Hnx.out,Nat.gcd_zero_left])
  have HW:=hd_ (Wd.own Hy.out (cz_ _))
  go_wp2
  go_ret
  exact⟨ay,ny,cy,rfl,by rw[HG.out];exact HW.out,hB12⟩
 ·have hxi:((nx:Int) == 0)=false:=by simp[hx0]
  by_cases hy0:ny=0
  ·subst hy0
   have HG:Hid (Nat.gcd (val la) (val lb)=val la):=hd_ (by rw[dg_nil_iff.1 Hny.out,Nat.gcd_zero_right])
   have HW:=hd_ (Wd.own Hx2.out (cz_ _))
   go_wp2
   go_ret
   exact⟨ax,nx,cx,rfl,by rw[HG.out];exact HW.out,hB12⟩
  ·have hyi:((ny:Int) == 0)=false:=by simp[hy0]
   obtain⟨gx,rfl,hOx⟩:=rt_ Hx2.out (cz_ _) (by omega)
   obtain⟨gy,rfl,hOy⟩:=rt_ Hy.out (cz_ _) (by omega)
   have hne:gx≠gy:=by
    have h1:=(Hx.out.lt gx rfl).2
    have h2:=(Hy.out.lt gy rfl).1
    omega
   have hva:Hid (val la≠0):=hd_ (fun h=>hx0 (Hnx.out.symm.trans (dg_nil_iff.2 h)))
   have hvb:Hid (val lb≠0):=hd_ (fun h=>hy0 (Hny.out.symm.trans (dg_nil_iff.2 h)))
   have hcx:=hOx.bound
   have hcy:=hOy.bound
   have HWx:=hd_ hOx.win
   have HWy:=hd_ (hOy.lower (base':=w.heap.size) hB1.size).win
   have hbx:=HWx.out.base
   have hby:=HWy.out.base
   have Hva:Hid (val (dg (val la))=val la):=hd_ (a3_ _)
   have Hvb:Hid (val (dg (val lb))=val lb):=hd_ (a3_ _)
   have HLa:Hid ((dg (oddp (val la))).length≤104857600000):=hd_ (Nat.le_trans (ax_ (Nat.div_le_self _ _)) (by rw[Hnx.out];exact hnx))
   have HLb:Hid ((dg (oddp (val lb))).length≤104857600000):=hd_ (Nat.le_trans (ax_ (Nat.div_le_self _ _)) (by rw[Hny.out];exact hny))
   have Hodd:Hid (oddp (val la) % 2=1∧oddp (val lb) % 2=1):=hd_ ⟨(i9_ hva.out).2,(i9_ hvb.out).2⟩
   have HG:=hd_ (gcd_parts hva.out hvb.out)
   clear hOx hOy Hx Hy Hx2 hx0 hy0 hB1 hB2
   go_wp2_with fail
   refine (ji_ w.heap.size _ gx 0 nx cx _ HWx.out (by omega) (by omega) (by omega) (by rw[Hva.out];exact hva)).mono ?_
   rintro e w3 ⟨ox,nx2,cx2,rfl,hcx1,hcx2,HX3,hG3⟩
   rw[Hva.out] at HX3 ⊢
   have hB3:=cp_ hB12 hG3 hbx.1
   have HY3:=hd_ (HWy.out.other hG3 (Ne.symm hne))
   clear HWx HWy hG3 hB12
   go_wp2_with fail
   refine (ji_ w.heap.size _ gy 0 ny cy _ HY3.out (by omega) (by omega) (by omega) (by rw[Hvb.out];exact hvb)).mono ?_
   rintro e w4 ⟨oy,ny2,cy2,rfl,hcy1,hcy2,HY4,hG4⟩
   rw[Hvb.out] at HY4 ⊢
   have hB4:=cp_ hB3 hG4 hby.1
   have HX4:=hd_ (HX3.out.other hG4 hne)
   have hnx2:nx2≤104857600000:=by rw[←HX4.out.len];exact HLa.out
   have hny2:ny2≤104857600000:=by rw[←HY4.out.len];exact HLb.out
   clear HX3 HY3 hG4 hB3 HLa HLb
   obtain⟨t,htt⟩:∃t:Nat,min ((tz (val la):Nat):Int) ((tz (val lb):Nat):Int)=(t:Int):=⟨min (tz (val la)) (tz (val lb)),by omega⟩
   have Htt:Hid (min (tz (val la)) (tz (val lb))=t):=hd_ (by omega)
   have htb2:t≤3355443200000:=by omega
   rw[Htt.out] at HG
   generalize tz (val la)=ta at *
   generalize tz (val lb)=tb at *
   generalize oddp (val la)=X0 at *
   generalize oddp (val lb)=Y0 at *
   generalize hGG:Nat.gcd X0 Y0=G at *
   have HGG:=hd_ hGG
   clear hGG Htt
   go_wp2
   go_loopw [5,6] (fun xv yv wr=>GcdRel G w.heap.size 104857600000 w xv yv wr) (fun xv yv wr=>kd_ wr xv+kd_ wr yv)
   case atStart=>exact⟨gx,ox,nx2,cx2,gy,oy,ny2,cy2,X0,Y0,rfl,rfl,hcx1,hcx2,hcy1,hcy2,hnx2,hny2,hne,HX4,HY4,hd_ ⟨Hodd.out.1,Hodd.out.2,HGG.out⟩,hB4⟩
   case round=>
    clear HX4 HY4 hB4 Hodd HGG hcx1 hcx2 hcy1 hcy2 hne
    obtain⟨gx,ox,nx,cx,gy,oy,ny,cy,X,Y,rfl,rfl,hcx1,hcx2,hcy1,hcy2,hnx,hny,hne,HX,HY,HXY,hB⟩:=hrel
    have HmX:=hd_ (HX.out.wd hcx1 hcx2).held
    have HmY:=hd_ (HY.out.wd hcy1 hcy2).held
    rw[a3_] at HmX HmY
    go_wp2_with fail
    refine (mm_ _ _ _ _ _ _ _ _ _ (HX.out.wd hcx1 hcx2) (HY.out.wd hcy1 hcy2) (by omega) (by omega)).mono ?_
    rintro e w5 ⟨rfl,rfl⟩
    rw[a3_,a3_]
    rcases Nat.lt_trichotomy X Y with hlt | heq | hlt
    ·have hc1:cmpI X Y < 0:=by rw[fv_ hlt];omega
     have HL:Hid (X < Y):=hd_ hlt
     have hbb:=HY.out.base
     have Hle:Hid (val (dg X)≤val (dg Y)):=hd_ (by rw[a3_,a3_];omega)
     have hlen:nx≤ny:=by rw[←HX.out.len,←HY.out.len];exact ax_ (by omega)
     have Hst:=hd_ (uh_ hlt HXY.out.1)
     clear hlt
     generalize cmpI X Y=c at *
     go_wp2_with fail
     refine (iv_ w.heap.size _ gy oy ny cy (dg Y) _ nx cx (dg X) HY.out (HX.out.wd hcx1 hcx2) (hd_ (win_lt hne)) (by omega) hlen Hle).mono ?_
     rintro e w6 ⟨P6,rfl,HP6,hG6,HV6⟩
     rw[a3_,a3_] at HV6
     have HS6:=hd_ (HX.out.other hG6 hne)
     have hB6:=cp_ hB hG6 hbb.1
     have Hn6:Hid (val P6≠0):=hd_ (by rw[HV6.out];have:=Hle.out;rw[a3_,a3_] at this;have:=HL.out;omega)
     clear hG6
     go_wp2_with fail
     refine (ji_ w.heap.size _ gy oy ny cy P6 HP6.out (by omega) (by omega) (by omega) Hn6).mono ?_
     rintro e w7 ⟨o7,n7,c7,rfl,hc71,hc72,HP7,hG7⟩
     rw[HV6.out] at HP7
     have HS7:=hd_ (HS6.out.other hG7 hne)
     have hB7:=hd_ (cp_ hB6 hG7 hbb.1)
     have hn7:n7≤104857600000:=by
      rw[←HP7.out.len]
      have h1:=ax_ (Nat.le_of_lt Hst.out.2.1)
      have h2:=HY.out.len
      omega
     have Hm7:=hd_ (HP7.out.wd hc71 hc72).held
     have Hms:=hd_ (HS7.out.wd hcx1 hcx2).held
     rw[a3_] at Hm7 Hms
     clear hG7 HP6 HS6 hB6 hB
     go_wp2
     go_roundw
     case rel=>
      exact⟨gy,o7,n7,c7,gx,ox,nx,cx,oddp (Y - X),X,rfl,rfl,hc71,hc72,hcx1,hcx2,hn7,hnx,Ne.symm hne,HP7,HS7,hd_ ⟨Hst.out.2.2,HXY.out.1,Hst.out.1.trans ((Nat.gcd_comm _ _).trans HXY.out.2.2)⟩,hB7.out⟩
     case measure=>
      rw[Hm7.out,Hms.out,HmX.out,HmY.out]
      have:=Hst.out.2.1
      omega
    ·subst heq
     have HGX:Hid (val (dg X) * 2 ^ t=Nat.gcd (val la) (val lb)):=hd_ (by rw[a3_,HG.out,←HXY.out.2.2,Nat.gcd_self])
     have HW:=hd_ (HX.out.wd hcx1 hcx2)
     rw[pd_ rfl]
     clear HX HY HmX HmY HXY
     go_wp2_with fail
     refine (ro_ gx ox nx cx (dg X) t _ HW.out (by omega) (by omega)).mono ?_
     rintro e w6 ⟨a6,n6,c6,rfl,h6,b6⟩
     rw[HGX.out] at h6
     have H6:=hd_ h6
     clear h6
     go_wp2
     go_ret
     exact⟨a6,n6,c6,rfl,H6.out,ab_ hB b6⟩
    ·have hc1:¬cmpI X Y < 0:=by rw[j7_ hlt];omega
     have hc2:¬cmpI X Y=0:=by rw[j7_ hlt];omega
     have HL:Hid (Y < X):=hd_ hlt
     have hbb:=HX.out.base
     have Hle:Hid (val (dg Y)≤val (dg X)):=hd_ (by rw[a3_,a3_];omega)
     have hlen:ny≤nx:=by rw[←HY.out.len,←HX.out.len];exact ax_ (by omega)
     have Hst:=hd_ (uh_ hlt HXY.out.2.1)
     clear hlt
     generalize cmpI X Y=c at *
     go_wp2_with fail
     refine (iv_ w.heap.size _ gx ox nx cx (dg X) _ ny cy (dg Y) HX.out (HY.out.wd hcy1 hcy2) (hd_ (win_lt (Ne.symm hne))) (by omega) hlen Hle).mono ?_
     rintro e w6 ⟨P6,rfl,HP6,hG6,HV6⟩
     rw[a3_,a3_] at HV6
     have HS6:=hd_ (HY.out.other hG6 (Ne.symm hne))
     have hB6:=cp_ hB hG6 hbb.1
     have Hn6:Hid (val P6≠0):=hd_ (by rw[HV6.out];have:=Hle.out;rw[a3_,a3_] at this;have:=HL.out;omega)
     clear hG6
     go_wp2_with fail
     refine (ji_ w.heap.size _ gx ox nx cx P6 HP6.out (by omega) (by omega) (by omega) Hn6).mono ?_
     rintro e w7 ⟨o7,n7,c7,rfl,hc71,hc72,HP7,hG7⟩
     rw[HV6.out] at HP7
     have HS7:=hd_ (HS6.out.other hG7 (Ne.symm hne))
     have hB7:=hd_ (cp_ hB6 hG7 hbb.1)
     have hn7:n7≤104857600000:=by
      rw[←HP7.out.len]
      have h1:=ax_ (Nat.le_of_lt Hst.out.2.1)
      have h2:=HX.out.len
      omega
     have Hm7:=hd_ (HP7.out.wd hc71 hc72).held
     have Hms:=hd_ (HS7.out.wd hcy1 hcy2).held
     rw[a3_] at Hm7 Hms
     clear hG7 HP6 HS6 hB6 hB
     go_wp2
     go_roundw
     case rel=>
      exact⟨gx,o7,n7,c7,gy,oy,ny,cy,oddp (X - Y),Y,rfl,rfl,hc71,hc72,hcy1,hcy2,hn7,hny,hne,HP7,HS7,hd_ ⟨Hst.out.2.2,HXY.out.2.1,Hst.out.1.trans HXY.out.2.2⟩,hB7.out⟩
     case measure=>
      rw[Hm7.out,Hms.out,HmX.out,HmY.out]
      have:=Hst.out.2.1
      omega
theorem mt_(a:OA_)(n cap:Nat)(v:Nat)(w:World)(h:Wd w a n cap (dg v)) :
 Calls Tryz.prog 57 #[.slice a n cap] w fun e w'=>e=.returned (.bool (decide (v=1)))∧w=w':=by
 have Hl:=hd_ h.len
 by_cases hn:n=1
 ·subst hn
  obtain⟨b,off,rfl,hc⟩:=h.at (by omega)
  have hc0:=hc 0 (by omega)
  have hv:atw (dg v) 0=v:=by
   have hl1:(dg v).length=1:=Hl.out
   have h1:=tc_ (l:=dg v) (by omega)
   rw[a3_,it_ (l:=dg v) (i:=1) (by omega)] at h1
   omega
  rw[hv,Nat.add_zero] at hc0
  clear hc h hv
  go_enter Tryz.func57,Tryz.ntmps57
  go_wp2
  go_ret
  exact⟨fp_ (by rw[Bool.eq_iff_iff,beq_iff_eq,decide_eq_true_eq];omega),rfl⟩
 ·have hni:((n:Int) == 1)=false:=by simp;omega
  have Hv:Hid (v≠1):=hd_ (fun e=>by subst e;have:=Hl.out;rw[fk_ (by decide) (by decide)] at this;exact hn this.symm)
  clear hn h
  go_enter Tryz.func57,Tryz.ntmps57
  go_wp2
  go_ret
  exact⟨fp_ (decide_eq_false Hv.out).symm,rfl⟩
theorem ob_(a:OA_)(n cap:Nat)(la:List Nat)(b:OA_)(m cap':Nat)(v:Nat)(w:World)(ha:Wd w a n cap la)(hb:Wd w b m cap' (dg v))(hn:n≤104857600000)(hm:m≤104857600000)(h0:Hid (v≠0)) :
 Calls Tryz.prog 59 #[.slice a n cap,.slice b m cap'] w (Lst (dg (val la / v)) w):=by
 have Ha:=hd_ ha
 have Hb:=hd_ hb
 clear ha hb
 go_enter Tryz.func59,Tryz.ntmps59
 go_wp2_with fail
 refine (mt_ _ _ _ v _ Hb.out).mono ?_
 rintro e w' ⟨rfl,rfl⟩
 by_cases h1:v=1
 ·have HF:Hid (val la / v=val la):=hd_ (by rw[h1,Nat.div_one])
  rw[decide_eq_true h1]
  clear h1
  go_wp2_with fail
  refine (du_ _ _ _ _ _ Ha.out (by omega)).mono ?_
  rintro e w1 ⟨a1,n1,c1,rfl,h1,b1⟩
  rw[←HF.out] at h1
  have H1:=hd_ h1
  clear h1
  go_wp2
  go_ret
  exact⟨a1,n1,c1,rfl,H1.out,b1⟩
 ·rw[decide_eq_false h1]
  clear h1
  go_wp2_with fail
  refine (ref05_div _ _ _ _ _ _ _ _ _ Ha.out Hb.out (by omega) (by omega) (by rw[a3_];exact h0)).mono ?_
  rintro e w1 ⟨a1,n1,c1,a2,n2,c2,rfl,h1,h2,b1⟩
  rw[a3_] at h1
  have H1:=hd_ h1
  clear h1 h2
  go_wp2
  go_ret
  exact⟨a1,n1,c1,rfl,H1.out,b1⟩
end Go.Proofs.YtocebjbjnfammaaGreat
