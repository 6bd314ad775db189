import Derived.Test.YtocebjbjnfammaaGreatVG3
import Derived.Test.YtocebjbjnfammaaGreatVG1
import Derived.Test.YtocebjbjnfammaaGreatVG2
import Derived.Deep.DeepMust
import Derived.BigRegion
import Derived.Laws.CopyOwn
import Derived.Test.YtocebjbjnfammaaGreatVG6
import Derived.BigQuiet
import Derived.Deep.QuietTactic
import Derived.Deep.AppendSrc
import Derived.Deep.RegionWith
import Derived.Deep.RegionHeld3
import Derived.Test.YtocebjbjnfammaaGreatVG5
import Derived.Deep.RegionLaw
import Derived.Deep.CutRange
import Derived.Test.YtocebjbjnfammaaGreatVG4
import Derived.StillTailTactics
set_option maxRecDepth 4096
set_option maxHeartbeats 16000000
namespace Go.Proofs.YtocebjbjnfammaaGreat
open Go.RowKit
theorem q1_(n:Nat)(w:World)(hn:n≤1048576000000000000):Calls Tryz.prog 182 #[.int .i64 (n:Int)] w fun e w'=>e=.returned (.int .i64 (((n+31) / 32:Nat):Int))∧w=w':=by
 go_enter Tryz.func182,Tryz.ntmps182
 go_wp2
 go_ret
 exact⟨fl_ (by omega),rfl⟩
def TwTrim (a:OA_) (cap n:Nat) (l:List Nat) (w:World) (e:Ending) (w':World):Prop:=
 ∃m:Nat,e=.returned (.slice a m cap)∧Hid (m=(dg (val l)).length)∧m≤n∧Hid (Wd w a m cap (dg (val l)))∧w=w'
theorem nv_(a:OA_)(n cap:Nat)(l:List Nat)(w:World)(h:Wd w a n cap l)(hn:n≤17592183947264) :
 Calls Tryz.prog 178 #[.slice a n cap] w (TwTrim a cap n l w):=by
 obtain⟨hb1,hb2⟩:=h.bound
 have H:=hd_ h
 have hle:blen (val l)≤32 * n:=blen_le.2 (by rw[←lw_,←h.len];exact fs_ h.ok)
 have Hm:Hid ((blen (val l)+31) / 32=(dg (val l)).length):=hd_ (jx_ _).symm
 clear h
 go_enter Tryz.func178,Tryz.ntmps178
 go_wp2_with fail
 refine (twos_len _ _ _ _ _ H.out hn).mono ?_
 rintro e w' ⟨rfl,rfl⟩
 generalize blen (val l)=y at *
 go_wp2_with fail
 refine (q1_ y _ (by omega)).mono ?_
 rintro e w' ⟨rfl,rfl⟩
 have hm:(y+31) / 32≤n:=by omega
 generalize (y+31) / 32=m at *
 cases a with
 | none=>
   obtain⟨rfl,rfl,rfl⟩:=H.out.ofNone
   go_wp2
   go_ret
   exact⟨m,by simp;omega,Hm,hm,hd_ (by have:=H.out.trim;rwa [←Hm.out] at this),rfl⟩
 | some ad=>
   go_wp2
   go_ret
   exact⟨m,rfl,Hm,hm,hd_ (by have:=H.out.trim;rwa [←Hm.out] at this),rfl⟩
theorem fx_(x y c:Nat)(w:World)(hx:x < 4294967296)(hy:y < 4294967296)(hc:c < 4294967296):Calls Tryz.prog 134 #[.int .u32 (x:Int),.int .u32 (y:Int),.int .u32 (c:Int),.int .u32 0] w fun e w'=>
 ∃z r:Nat,e=.returned (.tuple #[.int .u32 (z:Int),.int .u32 (r:Int)])∧z < 4294967296∧r < 4294967296∧Hid (r+4294967296 * z=x * y+c)∧w=w':=
 (qd_ x y c 0 w (by omega) (by omega) (by omega) (by omega) (by omega) (by omega) (by omega) (by omega)).mono fun e w' ⟨he,hw⟩=>by
   have h1:x * y≤4294967295 * 4294967295:=Nat.mul_le_mul (by omega) (by omega)
   have e0:(x:Int) * (y:Int)=((x * y:Nat):Int):=by simp
   rw[e0] at he
   generalize x * y=p at *
   exact⟨(p+c) / 4294967296,(p+c) % 4294967296,by rw[he,show ((p:Int)+c+0) / 4294967296=(((p+c) / 4294967296:Nat):Int) by omega,show ((p:Int)+c+0) % 4294967296=(((p+c) % 4294967296:Nat):Int) by omega],by omega,by omega,hd_ (by omega),hw⟩
def LstOwn (v:Nat) (w:World) (e:Ending) (w':World):Prop:=
 ∃(a:OA_) (n cap:Nat),e=.returned (.slice a n cap)∧Wd w' a n cap (dg v)∧Below w.heap.size w w'∧(v≠0→∃g,a=some ⟨g,0,none⟩∧Hid (Own w' w.heap.size g n cap (dg v)))
theorem LstOwn.lst{v:Nat}{w:World}{e:Ending}{w':World}(h:LstOwn v w e w'):Lst (dg v) w e w':=by
 obtain⟨a,n,cap,h1,h2,h3,_⟩:=h
 exact⟨a,n,cap,h1,h2,h3⟩
theorem kh_(a:OA_)(n cap:Nat)(l:List Nat)(k:Int)(w:World)(h:Wd w a n cap l)(hn:n≤1048576000000) :
 Calls Tryz.prog 175 #[.slice a n cap,.int .i64 k] w (LstOwn (val l * 2 ^ (min k.toNat 4096)) w):=by
 obtain⟨hb1,hb2⟩:=h.bound
 have H:=hd_ h
 clear h
 go_enter Tryz.func175,Tryz.ntmps175
 go_wp2_with fail
 refine (nv_ _ _ _ _ _ H.out (by omega)).mono ?_
 rintro e w' ⟨m,rfl,Hm,hmn,HT,rfl⟩
 by_cases hm0:m=0
 ·subst hm0
  have Hz:Hid (dg (val l * 2 ^ (min k.toNat 4096))=[]):=hd_ (by rw[dg_nil_iff.1 Hm.out.symm,Nat.zero_mul,cn_])
  go_wp2
  go_ret
  exact⟨_,_,_,rfl,by rw[Hz.out];exact Wd.ofNil _,Below.refl _ _,fun h=>absurd (dg_nil_iff.1 (by rw[Hz.out];rfl)) h⟩
 ·have hmb:((m:Int) == 0)=false:=by simp[hm0]
  have hv0:Hid (val l≠0):=hd_ (fun h=>hm0 (Hm.out.trans (dg_nil_iff.2 h)))
  obtain⟨M,hM⟩:∃M:Nat,(max k 0:Int)=(M:Int):=⟨k.toNat,by omega⟩
  obtain⟨N,hN⟩:∃N:Nat,(min (M:Int) 4096:Int)=(N:Int):=⟨min M 4096,by omega⟩
  have HN:Hid (min k.toNat 4096=N):=hd_ (by omega)
  have hNb:N≤4096:=by omega
  obtain⟨q,hq⟩:∃q:Nat,(N:Int) / 32=(q:Int):=⟨N / 32,by omega⟩
  obtain⟨r,hr⟩:∃r:Nat,(N:Int) % 32=(r:Int):=⟨N % 32,by omega⟩
  have Hqr:Hid (N=32 * q+r):=hd_ (by omega)
  have hr31:r < 32:=by omega
  have hqb:q≤128:=by omega
  obtain⟨P,HP,hP⟩:∃P:Nat,Hid (P=2 ^ r)∧(2:Int) ^ r=(P:Int):=⟨2 ^ r,rfl,by simp⟩
  have hPb:P < 4294967296:=by rw[HP.out];exact Nat.lt_of_le_of_lt (Nat.pow_le_pow_right (by decide) (show r≤31 by omega)) (by decide)
  obtain⟨i0,hi,hz0,hz1,hz2⟩:=info_parts f4_
  have hx:Hid (okw (dg (val l))∧(dg (val l)).length=m∧val (dg (val l))=val l):=hd_ ⟨cs_ _,Hm.out.symm,a8_ _⟩
  go_wp2_with (at_make;refine cx_ _ rfl _ _ 25 rfl w.heap.size 81 i0 (.int .u32 0) Tryz.underlying25 hi hz0 hz1 rfl .i64 .i64 _ _ q (q+m+1) rfl rfl rfl (by omega) (by omega) (by rw[hz2];omega) (by unfold maxLen;omega) (Nat.le_refl _) ?_;intro w1 hown1 hgrow1)
  rw[er_] at hown1
  have HO1:Hid (Own w1 w.heap.size w.heap.size q (q+m+1) (List.replicate q 0)):=hd_ ⟨hown1,g5_ q⟩
  have hB1:Below w.heap.size w w1:=(Below.refl _ _).grown hgrow1 (Nat.le_refl _) (fun k hk=>by cases hk)
  clear hown1 hgrow1
  go_loopw [5,6,29] (fun s cv i wr=>∃(j c g cap2:Nat) (o:List Nat),j≤m∧i=.int .i64 (j:Int)∧cv=.int .u32 (c:Int)∧c < 4294967296∧s=.slice (some ⟨g,0,none⟩) (q+j) cap2∧Hid (o.length=q+j)∧Hid (val o+4294967296 ^ (q+j) * c=low (dg (val l)) j * 2 ^ (32 * q+r))∧Hid (Own wr w.heap.size g (q+j) cap2 o)∧Below w.heap.size w wr) (fun _ _ i _=>m - (intOf i).toNat)
  case atStart=>exact⟨0,0,_,_,List.replicate q 0,by omega,rfl,rfl,by omega,rfl,hd_ (by simp),hd_ (by rw[hc_,dk_];simp),HO1,hB1⟩
  case round=>
   clear HO1 hB1
   obtain⟨j,c,g,cap2,o,hj,rfl,rfl,hc,rfl,Hol,Hv,HO,hB⟩:=hrel
   by_cases hlt:j < m
   ·obtain⟨b,off,rfl,hcl⟩:=(HT.out.later hB).at (by omega)
    have hck:=hcl j hlt
    have hxw:=bw_ hx.out.1 j
    obtain⟨x,hxx⟩:∃x,x=atw (dg (val l)) j:=⟨_,rfl⟩
    rw[←hxx] at hxw hck
    have Hx:=hd_ hxx
    have hj1:(j:Int) < (m:Int):=by omega
    have hbase:w.heap.size≤wr.heap.size:=hB.size
    clear hcl hxx
    go_wp2_with fail
    refine (fx_ x P c _ hxw hPb hc).mono ?_
    rintro e w' ⟨c2,y,rfl,hc2,hy,Hs,rfl⟩
    go_wp2_with (at_builtin;refine wpList_append_own _ rfl _ _ 25 rfl w.heap.size 81 i0 (.int .u32 0) 1 4 Tryz.underlying25 hi hz0 hz1 hz2 rfl (by decide) _ (q+j) _ rfl (HO.out.1.alloc _) ⟨wr.heap.size,0,none⟩ 1 1 (cl_ [y]) rfl rfl (Wd.lit1 wr 81 (x:=y) hy).cells (d2_ _) (by unfold maxLen;omega) (by omega) (by simp;omega) ?_)
    intro v' w2 hown hgrow _
    obtain⟨g2,cap3,rfl,HO2⟩:=Own.push (r:=y) hown HO.out.2 hy
    have HO':=hd_ HO2
    have hb:=HO.out.base
    have hB1:Below w.heap.size w w2:=(hB.alloc hbase _).grown hgrow (by simp;omega) (by intro k hk;simp[Value.ownBlock] at hk;omega)
    clear HO2 hown hgrow
    go_wp2
    go_roundw
    case rel=>exact⟨j+1,c2,g2,cap3,o ++ [y],by omega,by go_num,rfl,hc2,rfl,hd_ (by have:=Hol.out;simp;omega),hd_ (up_step Hol.out Hv.out (by rw[←Hx.out,←HP.out];exact Hs.out)),HO',hB1⟩
    case measure=>simp[intOf];omega
   ·obtain rfl:j=m:=by omega
    have Hv2:Hid (val o+4294967296 ^ (q+j) * c=val l * 2 ^ N):=hd_ (by rw[Hv.out,fa_ (by rw[hx.out.2.1];omega),hx.out.2.2,Hqr.out])
    clear hlt Hv
    by_cases hc0:c=0
    ·subst hc0
     have Hfin:Hid (o=dg (val l * 2 ^ N)):=hd_ (up_end0 HO.out.2 hx.out.2.1 hv0.out (by rw[Hqr.out];omega) Hol.out (by simpa using Hv2.out))
     go_wp2
     go_ret
     exact⟨_,_,_,rfl,by rw[HN.out,←Hfin.out];exact HO.out.wd,hB,fun _=>⟨_,rfl,hd_ (by rw[HN.out,←Hfin.out];exact HO.out)⟩⟩
    ·have Hfin:Hid (o ++ [c]=dg (val l * 2 ^ N)):=hd_ (up_end1 HO.out.2 hc hc0 (by rw[Hol.out];exact Hv2.out))
     have hcp:0 < c:=by omega
     have hcpi:(0:Int) < (c:Int):=by omega
     have hbase:w.heap.size≤wr.heap.size:=hB.size
     clear hc0
     go_wp2_with (at_builtin;refine wpList_append_own _ rfl _ _ 25 rfl w.heap.size 81 i0 (.int .u32 0) 1 4 Tryz.underlying25 hi hz0 hz1 hz2 rfl (by decide) _ (q+j) _ rfl (HO.out.1.alloc _) ⟨_,0,none⟩ 1 1 (cl_ [c]) rfl rfl (Wd.lit1 _ 81 (x:=c) hc).cells (d2_ _) (by unfold maxLen;omega) (by omega) (by simp;omega) ?_)
     intro v' w2 hown hgrow _
     obtain⟨g2,cap3,rfl,HO2⟩:=Own.push (r:=c) hown HO.out.2 hc
     have HO':=hd_ HO2
     have hb:=HO.out.base
     have hB1:Below w.heap.size w w2:=(hB.alloc hbase _).grown hgrow (by simp;omega) (by intro k hk;simp[Value.ownBlock] at hk;omega)
     clear HO2 hown hgrow
     go_wp2
     go_ret
     exact⟨_,_,_,rfl,by rw[HN.out,←Hfin.out];exact HO'.out.wd,hB1,fun _=>⟨_,rfl,hd_ (by rw[HN.out,←Hfin.out];exact HO'.out)⟩⟩
theorem twos_up(a:OA_)(n cap:Nat)(l:List Nat)(k:Int)(w:World)(h:Wd w a n cap l)(hn:n≤1048576000000) :
 Calls Tryz.prog 175 #[.slice a n cap,.int .i64 k] w (Lst (dg (val l * 2 ^ (min k.toNat 4096))) w):=
 (kh_ a n cap l k w h hn).mono fun _ _ hp=>hp.lst
theorem Wd.drop{w:World}{b off m cap q:Nat}{l:List Nat}(h:Wd w (some ⟨b,off,none⟩) (q+m) cap l):Wd w (some ⟨b,off+q,none⟩) m (cap - q) (l.drop q):=by
 have h1:=h.bound
 have h2:=h.len
 refine ⟨by rw[List.length_drop];omega,by omega,by omega,i0_ h.ok q,fun e=>(by cases e),?_⟩
 by_cases h0:m=0
 ·exact .inl h0
 ·obtain⟨b',off',e,hc⟩:=h.at (by omega)
  simp only[Option.some.injEq,Addr.mk.injEq,and_true] at e
  obtain⟨rfl,rfl⟩:=e
  exact .inr ⟨b,off+q,rfl,fun j hj=>by rw[Nat.add_assoc,hc (q+j) (by omega),ej_]⟩
theorem twos_down(a:OA_)(n cap:Nat)(l:List Nat)(k:Int)(w:World)(h:Wd w a n cap l)(hn:n≤1048576000000)(hk:k≤9223372036854775807) :
 Calls Tryz.prog 177 #[.slice a n cap,.int .i64 k] w (Lst (dg (val l / 2 ^ k.toNat)) w):=by
 obtain⟨hb1,hb2⟩:=h.bound
 have H:=hd_ h
 clear h
 obtain⟨M,hM⟩:∃M:Nat,(max k 0:Int)=(M:Int):=⟨k.toNat,by omega⟩
 have HM:Hid (k.toNat=M):=hd_ (by omega)
 have hMb:M≤9223372036854775807:=by omega
 obtain⟨q,hq⟩:∃q:Nat,(M:Int) / 32=(q:Int):=⟨M / 32,by omega⟩
 obtain⟨r,hr⟩:∃r:Nat,(M:Int) % 32=(r:Int):=⟨M % 32,by omega⟩
 have Hqr:Hid (M=32 * q+r):=hd_ (by omega)
 have hr31:r < 32:=by omega
 by_cases hqn:n≤q
 ·have hqi:(n:Int)≤(q:Int):=by omega
  have Hz:Hid (dg (val l / 2 ^ k.toNat)=[]):=hd_ (by
   have h1:val l < 2 ^ k.toNat:=Nat.lt_of_lt_of_le (fs_ H.out.ok) (by rw[lw_,HM.out,Hqr.out,H.out.len];exact Nat.pow_le_pow_right (by decide) (by omega))
   rw[Nat.div_eq_of_lt h1,cn_])
  clear hqn
  go_enter Tryz.func177,Tryz.ntmps177
  go_wp2
  go_ret
  exact⟨_,_,_,rfl,by rw[Hz.out];exact Wd.ofNil _,Below.refl _ _⟩
 ·obtain⟨m,rfl⟩:∃m,n=q+m:=⟨n - q,by omega⟩
  have hm0:0 < m:=by omega
  obtain⟨b,off,rfl,hcc⟩:=H.out.at (by omega)
  clear hcc
  have HT:=hd_ H.out.drop
  have ht:Hid (okw (l.drop q)∧(l.drop q).length=m∧val (l.drop q) / 2 ^ r=val l / 2 ^ k.toNat):=hd_ ⟨HT.out.ok,HT.out.len,by rw[HM.out,Hqr.out,←shift_div H.out.ok];rfl⟩
  generalize l.drop q=t at *
  obtain⟨s,hs⟩:∃s:Nat,(32:Int) - (r:Int)=(s:Int):=⟨32 - r,by omega⟩
  have Hs:Hid (s=32 - r):=hd_ (by omega)
  have hqi:(q:Int) < (q:Int)+(m:Int):=by omega
  obtain⟨i0,hi,hz0,hz1,hz2⟩:=info_parts f4_
  clear hqn
  go_enter Tryz.func177,Tryz.ntmps177
  go_wp2_with (at_make;refine cx_ _ rfl _ _ 25 rfl w.heap.size 81 i0 (.int .u32 0) Tryz.underlying25 hi hz0 hz1 rfl .i64 .i64 _ _ m m rfl rfl rfl rfl (by omega) (by rw[hz2];omega) (by unfold maxLen;omega) (Nat.le_refl _) ?_;intro w1 hown1 hgrow1)
  rw[er_] at hown1
  have HO1:Hid (Own w1 w.heap.size w.heap.size m m (List.replicate m 0)):=hd_ ⟨hown1,g5_ m⟩
  have hB1:Below w.heap.size w w1:=(Below.refl _ _).grown hgrow1 (Nat.le_refl _) (fun k hk=>by cases hk)
  clear hown1 hgrow1
  go_loopw [26] (fun i wr=>∃(j:Nat) (o:List Nat),j≤m∧i=.int .i64 (j:Int)∧Hid (o.length=j)∧Hid (val o=low t j / 2 ^ r)∧Hid (Own wr w.heap.size w.heap.size m m (o ++ List.replicate (m - j) 0))∧Below w.heap.size w wr) (fun i _=>m - (intOf i).toNat)
  case atStart=>exact⟨0,[],by omega,rfl,hd_ rfl,hd_ (by rw[dk_,Nat.zero_div];rfl),hd_ (by simpa using HO1.out),hB1⟩
  case round=>
   clear HO1 hB1
   obtain⟨j,o,hj,rfl,Hol,Hv,HO,hB⟩:=hrel
   by_cases hlt:j < m
   ·obtain⟨b2,off2,e2,hcl⟩:=(HT.out.later hB).at (by omega)
    simp only[Option.some.injEq,Addr.mk.injEq,and_true] at e2
    obtain⟨rfl,rfl⟩:=e2
    have hck:=hcl j hlt
    have hxw:=bw_ ht.out.1 j
    obtain⟨x,hxx⟩:∃x,x=atw t j:=⟨_,rfl⟩
    rw[←hxx] at hxw hck
    have Hx:=hd_ hxx
    have hj1:(j:Int) < (m:Int):=by omega
    have hcell:=HO.out.cell (k:=j) (by omega)
    have hfro:=HO.out.1.frozenAt j
    generalize atw (o ++ List.replicate (m - j) 0) j=old at hcell
    obtain⟨y,hy⟩:∃y:Nat,(x:Int) / 2 ^ r=(y:Int):=⟨x / 2 ^ r,fq_ x r⟩
    have Hy:Hid (y=x / 2 ^ r):=hd_ (by have:=fq_ x r;omega)
    have hyw:y < 4294967296:=by rw[Hy.out];exact lb_ hxw r
    have HO1:=HO.out.set j y hyw
    rw[set_next o m j y Hol.out hlt] at HO1
    have hb:=HO.out.base
    have hB1:=hB.setCell (p:=⟨w.heap.size,j,none⟩) hb.1 (.int .u32 (y:Int))
    clear hcl hxx
    by_cases hj0:j=0
    ·have Hj0:=hd_ hj0
     have hji:(j:Int)≤0:=by omega
     clear hj0
     go_wp2
     go_roundw
     case rel=>exact⟨j+1,o ++ [y],by omega,by go_num,hd_ (by have:=Hol.out;simp;omega),hd_ (by
      obtain rfl:j=0:=Hj0.out
      obtain rfl:=List.eq_nil_of_length_eq_zero Hol.out
      rw[Hy.out,Hx.out];exact rw_ r),hd_ HO1,hB1⟩
     case measure=>simp[intOf];omega
    ·obtain⟨p,rfl⟩:∃p,j=p+1:=⟨j - 1,by omega⟩
     have hcell2:=HO.out.cell (k:=p) (by omega)
     have hfro2:=HO.out.1.frozenAt p
     rw[i7_ (by rw[Hol.out];omega)] at hcell2
     have hroom:=down_room (by omega) ht.out.1 Hv.out
     have hor:=down_or (w:=x) (by omega) hroom
     obtain⟨u,hu⟩:∃u,u=atw o p:=⟨_,rfl⟩
     rw[←hu] at hcell2 hroom hor
     have Hu:=hd_ hu
     obtain⟨z,hz⟩:∃z:Nat,(x:Int) * 2 ^ s % 4294967296=(z:Int):=⟨x * 2 ^ s % 4294967296,by rw[gr_];omega⟩
     have Hz:Hid (z=x * 2 ^ (32 - r) % 4294967296):=hd_ (by rw[←Hs.out];have:=gr_ x s;omega)
     rw[←Hz.out] at hor
     have huw:u < 4294967296:=Nat.lt_of_lt_of_le hroom (show 2 ^ (32 - r)≤2 ^ 32 from Nat.pow_le_pow_right (by decide) (by omega))
     have hov:bits .or .u32 (u:Int) (z:Int)=((u+z:Nat):Int):=by rw[ro_ u z huw (by rw[Hz.out];exact Nat.mod_lt _ (by decide)),hor.1]
     obtain⟨v,hv⟩:∃v,v=u+z:=⟨_,rfl⟩
     rw[←hv] at hov hor
     have Hvv:=hd_ hv
     have hvw:v < 4294967296:=hor.2
     have hB2:=hB1.setCell (p:=⟨w.heap.size,p,none⟩) hb.1 (.int .u32 (v:Int))
     have HO2:=Own.set HO1 p v hvw
     rw[rn_ _ _ _ _ _ (by rw[Hol.out];omega)] at HO2
     have HO2':=hd_ HO2
     have HB2:=hd_ hB2
     have hp1:(p:Int) < (m:Int):=by omega
     clear hu hv hor hroom HO1 hB1 HO2 hB2 hj0
     go_wp2
     go_region
     go_wp2
     go_roundw
     case rel=>exact⟨p+1+1,o.set p v ++ [y],by omega,by go_num,hd_ (by have:=Hol.out;simp;omega),hd_ (by
      rw[Hvv.out,Hu.out,Hz.out,Hy.out,Hx.out];exact down_step (by omega) Hol.out Hv.out),hd_ ⟨HO2'.out.1.drew,HO2'.out.2⟩,HB2.out.drew⟩
     case measure=>simp[intOf];omega
   ·obtain rfl:j=m:=by omega
    have Hfin:Hid (val o=val l / 2 ^ k.toNat):=hd_ (by rw[Hv.out,fa_ (by rw[ht.out.2.1];omega),ht.out.2.2])
    have HW:=HO.out.wd
    rw[Nat.sub_self,List.replicate_zero,List.append_nil] at HW
    have HW':=hd_ HW
    clear HW
    go_wp2_with fail
    refine (nv_ _ _ _ _ _ HW'.out (by omega)).mono ?_
    rintro e w' ⟨z,rfl,Hz,hz,HT2,rfl⟩
    rw[Hfin.out] at HT2
    go_wp2
    go_ret
    exact⟨_,_,_,rfl,HT2.out,hB⟩
def q4_ (base g N cap i m q:Nat) (D P:List Nat) (w:World) (e:Ending) (w':World):Prop:=
 ∃(P':List Nat) (b:Nat),e=.returned (.int .u32 (b:Int))∧b≤1∧Hid (Own w' base g N cap P')∧w.grownBy w' (some g)∧Hid (val P'+4294967296 ^ i * (q * val D)=val P+4294967296 ^ (i+m+1) * b)∧Hid (Flat P' (i+m+1))
theorem ph_(w0 w:World)(g i N cap c m dcap q:Nat)(P D:List Nat)(d:OA_)(hO:Own w w0.heap.size g N cap P)(hB:Below w0.heap.size w0 w)(hd:Wd w0 d m dcap D)(hi:i+m < N)(hq:q < 4294967296)(hN:N≤2097152000000)(hF:Flat P (i+m+1)) :
 Calls Tryz.prog 180 #[.slice (some ⟨g,i,none⟩) (m+1) c,.slice d m dcap,.int .u32 (q:Int)] w (q4_ w0.heap.size g N cap i m q D P w):=by
 have HO0:=hd_ hO
 have HD:=hd_ hd
 have HF0:=hd_ hF
 have HDl:=hd_ hd.len
 have HPl:=hd_ hO.len
 clear hO hd hF
 go_enter Tryz.func180,Tryz.ntmps180
 go_wp2
 go_loopw [7,9,14] (fun cv bv jv wr=>∃(j y b:Nat) (R:List Nat),j≤m∧jv=.int .i64 (j:Int)∧cv=.int .u32 (y:Int)∧bv=.int .u32 (b:Int)∧y < 4294967296∧b≤1∧Hid (im_ P D R i q j y b)∧Hid (Flat R (i+m+1))∧Hid (Own wr w0.heap.size g N cap R)∧w.grownBy wr (some g)) (fun _ _ jv _=>m - (intOf jv).toNat)
 case atStart=>exact⟨0,0,0,P,by omega,rfl,rfl,rfl,by omega,by omega,hd_ (rz_ _ _ _ _),HF0,HO0,hw_ _ _⟩
 case round=>
  obtain⟨j,y,b,R,hj,rfl,rfl,rfl,hy,hb,HT,HF,HO,hG⟩:=hrel
  have hbase:=HO.out.base
  have hB2:=fm_ hB hG hbase.1
  by_cases hlt:j < m
  ·obtain⟨bd,od,rfl,hcd⟩:=(HD.out.later hB2).at (by omega)
   have hcdj:=hcd j hlt
   have hji:(j:Int) < (m:Int):=by omega
   have hxw:=bw_ HD.out.ok j
   obtain⟨x,hxx⟩:∃x,x=atw D j:=⟨_,rfl⟩
   rw[←hxx] at hxw hcdj
   have Hx:=hd_ hxx
   have hcell:=HO.out.cell (k:=i+j) (by omega)
   have hfro:=HO.out.1.frozenAt (i+j)
   have huw:=bw_ HO.out.2 (i+j)
   obtain⟨u,huu⟩:∃u,u=atw R (i+j):=⟨_,rfl⟩
   rw[←huu] at huw hcell
   have Hu:=hd_ huu
   clear hcd hxx huu hB2
   go_wp2_with fail
   refine (fx_ x q y _ hxw hq hy).mono ?_
   rintro e w' ⟨hi2,lo,rfl,hh,hl,Hs,rfl⟩
   go_wp2_with fail
   refine (ex_ u lo b _ huw hl hb).mono ?_
   rintro e w' ⟨r,z,rfl,hz,hr,Hr,rfl⟩
   have HOs:=hd_ (HO.out.set (i+j) r hr)
   have hGs:=hd_ (da_ hG (cq_ _ g (i+j) (.int .u32 (r:Int))))
   go_wp2
   go_roundw
   case rel=>
    exact⟨j+1,hi2,z,R.set (i+j) r,by omega,by go_num,rfl,rfl,hh,hz,hd_ (by
     have h1:=HPl.out
     have h2:=HO.out.len
     exact take_step HT.out (by omega) (by rw[←Hx.out];exact Hs.out) (by rw[←Hu.out];exact Hr.out)),hd_ (i4_ HF.out (by omega)),HOs,hGs.out⟩
   case measure=>simp[intOf];omega
  ·obtain rfl:j=m:=by omega
   have hcell:=HO.out.cell (k:=i+j) (by omega)
   have hfro:=HO.out.1.frozenAt (i+j)
   have huw:=bw_ HO.out.2 (i+j)
   obtain⟨u,huu⟩:∃u,u=atw R (i+j):=⟨_,rfl⟩
   rw[←huu] at huw hcell
   have Hu:=hd_ huu
   clear huu hB2
   go_wp2_with fail
   refine (ex_ u y b _ huw hy hb).mono ?_
   rintro e w' ⟨r,z,rfl,hz,hr,Hr,rfl⟩
   have HOs:=hd_ (HO.out.set (i+j) r hr)
   have hGs:=hd_ (da_ hG (cq_ _ g (i+j) (.int .u32 (r:Int))))
   go_wp2
   go_ret
   exact⟨R.set (i+j) r,z,rfl,hz,HOs,hGs.out,hd_ (by
    have h2:=HO.out.len
    exact take_end HT.out HDl.out (by omega) (by rw[←Hu.out];exact Hr.out)),hd_ (i4_ HF.out (by omega))⟩
def GivePost (base g N cap i m:Nat) (D P:List Nat) (w:World) (e:Ending) (w':World):Prop:=
 ∃(P':List Nat) (z:Nat),e=.returned (.tuple #[])∧z≤1∧Hid (Own w' base g N cap P')∧w.grownBy w' (some g)∧Hid (val P'+4294967296 ^ (i+m+1) * z=val P+4294967296 ^ i * val D)∧Hid (Flat P' (i+m+1))
theorem m0_(w0 w:World)(g i N cap c m dcap:Nat)(P D:List Nat)(d:OA_)(hO:Own w w0.heap.size g N cap P)(hB:Below w0.heap.size w0 w)(hd:Wd w0 d m dcap D)(hi:i+m < N)(hN:N≤2097152000000)(hF:Flat P (i+m+1)) :
 Calls Tryz.prog 181 #[.slice (some ⟨g,i,none⟩) (m+1) c,.slice d m dcap] w (GivePost w0.heap.size g N cap i m D P w):=by
 have HO0:=hd_ hO
 have HD:=hd_ hd
 have HF0:=hd_ hF
 have HDl:=hd_ hd.len
 have HPl:=hd_ hO.len
 clear hO hd hF
 go_enter Tryz.func181,Tryz.ntmps181
 go_wp2
 go_loopw [4,9] (fun cv jv wr=>∃(j y:Nat) (R:List Nat),j≤m∧jv=.int .i64 (j:Int)∧cv=.int .u32 (y:Int)∧y≤1∧Hid (if_ P D R i j y)∧Hid (Flat R (i+m+1))∧Hid (Own wr w0.heap.size g N cap R)∧w.grownBy wr (some g)) (fun _ jv _=>m - (intOf jv).toNat)
 case atStart=>exact⟨0,0,P,by omega,rfl,rfl,by omega,hd_ (qw_ _ _ _),HF0,HO0,hw_ _ _⟩
 case round=>
  obtain⟨j,y,R,hj,rfl,rfl,hy,HT,HF,HO,hG⟩:=hrel
  have hbase:=HO.out.base
  have hB2:=fm_ hB hG hbase.1
  by_cases hlt:j < m
  ·obtain⟨bd,od,rfl,hcd⟩:=(HD.out.later hB2).at (by omega)
   have hcdj:=hcd j hlt
   have hji:(j:Int) < (m:Int):=by omega
   have hxw:=bw_ HD.out.ok j
   obtain⟨x,hxx⟩:∃x,x=atw D j:=⟨_,rfl⟩
   rw[←hxx] at hxw hcdj
   have Hx:=hd_ hxx
   have hcell:=HO.out.cell (k:=i+j) (by omega)
   have hfro:=HO.out.1.frozenAt (i+j)
   have huw:=bw_ HO.out.2 (i+j)
   obtain⟨u,huu⟩:∃u,u=atw R (i+j):=⟨_,rfl⟩
   rw[←huu] at huw hcell
   have Hu:=hd_ huu
   clear hcd hxx huu hB2
   go_wp2_with fail
   refine (f9_ u x y _ huw hxw hy).mono ?_
   rintro e w' ⟨r,z,rfl,hz,hr,Hr,rfl⟩
   have HOs:=hd_ (HO.out.set (i+j) r hr)
   have hGs:=hd_ (da_ hG (cq_ _ g (i+j) (.int .u32 (r:Int))))
   go_wp2
   go_roundw
   case rel=>
    exact⟨j+1,z,R.set (i+j) r,by omega,by go_num,rfl,hz,hd_ (by
     have h1:=HPl.out
     have h2:=HO.out.len
     exact give_step HT.out (by omega) (by rw[←Hx.out,←Hu.out];exact Hr.out)),hd_ (i4_ HF.out (by omega)),HOs,hGs.out⟩
   case measure=>simp[intOf];omega
  ·obtain rfl:j=m:=by omega
   have hcell:=HO.out.cell (k:=i+j) (by omega)
   have hfro:=HO.out.1.frozenAt (i+j)
   have huw:=bw_ HO.out.2 (i+j)
   obtain⟨u,huu⟩:∃u,u=atw R (i+j):=⟨_,rfl⟩
   rw[←huu] at huw hcell
   have Hu:=hd_ huu
   clear huu hB2
   go_wp2_with fail
   refine (g6_ u y _ huw hy).mono ?_
   rintro e w' ⟨r,z,rfl,hz,hr,Hr,rfl⟩
   have HOs:=hd_ (HO.out.set (i+j) r hr)
   have hGs:=hd_ (da_ hG (cq_ _ g (i+j) (.int .u32 (r:Int))))
   go_wp2
   go_end0
   exact⟨R.set (i+j) r,z,rfl,hz,HOs,hGs.out,hd_ (by
    have h2:=HO.out.len
    exact give_end HT.out HDl.out (by omega) (by rw[←Hu.out];exact Hr.out)),hd_ (i4_ HF.out (by omega))⟩
theorem Own.window{w:World}{base g N cap:Nat}{P:List Nat}(h:Own w base g N cap P){i k c:Nat}(hi:i+k≤N)(hk:0 < k)(hc:k≤c)(hc2:c≤9223372036854775807):Wd w (some ⟨g,i,none⟩) k c ((P.drop i).take k):=by
 have hl:=h.len
 exact⟨by rw[List.length_take,List.length_drop];omega,hc,hc2,gi_ (i0_ h.2 i) k,fun e=>(by cases e),.inr ⟨g,i,rfl,fun j hj=>by rw[h.cell (by omega),gf_ hj,ej_]⟩⟩
theorem ig_(u1 u0 v q r:Nat)(w:World)(h0:u0 < 4294967296)(hv:v < 4294967296)(hlt:u1 < v)(hq:Hid (q=(u1 * 4294967296+u0) / v))(hr:Hid (r=(u1 * 4294967296+u0) % v)):Calls Tryz.prog 173 #[.int .u32 (u1:Int),.int .u32 (u0:Int),.int .u32 (v:Int)] w fun e w'=>
 e=.returned (.tuple #[.int .u32 (q:Int),.int .u32 (r:Int),.bool true])∧∃n,w'=w.drewN n:=
 (n3_ (u1:Int) (u0:Int) (v:Int) w (by omega) (by omega) (by omega) (by omega) (by omega) (by omega)).mono fun e w' ⟨he,hw⟩=>⟨by
   have e1:((u1:Int) * 4294967296+(u0:Int)) / (v:Int)=(q:Int):=by rw[hq.out,Int.natCast_ediv,Int.natCast_add,Int.natCast_mul];rfl
   have e2:((u1:Int) * 4294967296+(u0:Int)) % (v:Int)=(r:Int):=by rw[hr.out,Int.natCast_emod,Int.natCast_add,Int.natCast_mul];rfl
   rw[he,e1,e2],hw⟩
theorem mg_(u1 u0 v:Nat)(w:World)(hge:v≤u1):Calls Tryz.prog 173 #[.int .u32 (u1:Int),.int .u32 (u0:Int),.int .u32 (v:Int)] w fun e w'=>e=.returned (.tuple #[.int .u32 0,.int .u32 0,.bool false])∧w=w':=
 of_ _ _ _ w (by omega)
theorem qy_(w:World)(a:OA_)(n cap:Nat)(R:List Nat)(d:OA_)(M K L dcap:Nat)(D:List Nat)(hR:Wd w a n cap R)(hd:Wd w d M dcap D)(hM:M < n)(hK:(M:Int) - 1=(K:Int))(hL:(M:Int) - 2=(L:Int)) :
 Calls Tryz.prog 179 #[.slice a n cap,.slice d M dcap] w fun e w'=>e=.returned (.int .u32 ((c4_ (atw R M) (atw R K) (atw D K) (atw D L):Nat):Int))∧∃q,w'=w.drewN q:=by
 obtain⟨hb1,hb2⟩:=hR.bound
 obtain⟨hb3,hb4⟩:=hd.bound
 have hokR:=hR.ok
 have hokD:=hd.ok
 obtain⟨ba,oa,rfl,hca⟩:=hR.at (by omega)
 obtain⟨bd,od,rfl,hcd⟩:=hd.at (by omega)
 have hc1:=hca M (by omega)
 have hc2:=hca K (by omega)
 have hc3:=hcd K (by omega)
 have hc4:=hcd L (by omega)
 have hw1:=bw_ hokR M
 have hw0:=bw_ hokR K
 have hv1:=bw_ hokD K
 have hv0:=bw_ hokD L
 clear hca hcd hR hd hokR hokD
 generalize atw R M=u1 at *
 generalize atw R K=u0 at *
 generalize atw D K=v1 at *
 generalize atw D L=v0 at *
 have hMi:(M:Int) < (n:Int):=by omega
 have hKi:(K:Int) < (n:Int):=by omega
 have hKj:(K:Int) < (M:Int):=by omega
 have hLj:(L:Int) < (M:Int):=by omega
 by_cases hle:v1≤u1
 ·have HG:Hid (c4_ u1 u0 v1 v0=4294967295):=hd_ (by unfold c4_;rw[if_pos hle])
  have HLE:=hd_ hle
  clear hle
  go_enter Tryz.func179,Tryz.ntmps179
  go_wp2
  go_quiet ((go_at_call 173;exact gj_ (mg_ u1 u0 v1 _ HLE.out) ⟨_,rfl⟩))
  go_wp2
  go_ret
  exact⟨by rw[HG.out];rfl,_,rfl⟩
 ·obtain⟨q,hq⟩:∃q,q=(u1 * 4294967296+u0) / v1:=⟨_,rfl⟩
  obtain⟨r,hr⟩:∃r,r=(u1 * 4294967296+u0) % v1:=⟨_,rfl⟩
  have hqw:q < 4294967296:=by rw[hq];exact Nat.div_lt_of_lt_mul (by omega)
  have hrw:r < 4294967296:=by
   have:r < v1:=by rw[hr];exact Nat.mod_lt _ (by omega)
   omega
  have HQ:=hd_ hq
  have HR:=hd_ hr
  have HLT:Hid (u1 < v1):=hd_ (by omega)
  clear hq hr hle
  go_enter Tryz.func179,Tryz.ntmps179
  go_wp2
  go_quiet ((go_at_call 173;exact ox_ (ig_ u1 u0 v1 q r _ hw0 hv1 HLT.out HQ HR) (fun p=>⟨_,World.drewN_drewN ..⟩)))
  go_wp2_with fail
  refine (fx_ q v0 0 _ hqw hv0 (by omega)).mono ?_
  rintro e w' ⟨z,y,rfl,hz,hy,Hs,rfl⟩
  have HZ:Hid (z=q * v0 / 4294967296):=hd_ (by have:=Hs.out;omega)
  by_cases hgt:r < z
  ·have HG:Hid (c4_ u1 u0 v1 v0=q - 1):=hd_ (by
    unfold c4_
    rw[if_neg (by have:=HLT.out;omega),←HQ.out,←HR.out,←HZ.out,if_pos hgt])
   have hq1:1≤q:=by
    rcases Nat.eq_zero_or_pos q with h0 | h0
    ·have:=HZ.out;rw[h0] at this;simp at this;omega
    ·exact h0
   obtain⟨q1,hq⟩:∃q1:Nat,(q:Int) - 1=(q1:Int):=⟨q - 1,by omega⟩
   have Hq:Hid (q - 1=q1):=hd_ (by omega)
   go_wp2
   go_ret
   exact⟨by rw[HG.out,Hq.out];rfl,_,rfl⟩
  ·have HG:Hid (c4_ u1 u0 v1 v0=q):=hd_ (by
    unfold c4_
    rw[if_neg (by have:=HLT.out;omega),←HQ.out,←HR.out,←HZ.out,if_neg hgt])
   go_wp2
   go_ret
   exact⟨by rw[HG.out];rfl,_,rfl⟩
def po_ (base g N cap i:Nat) (D P:List Nat) (w:World) (e:Ending) (w':World):Prop:=
 ∃(P':List Nat) (q:Nat),e=.returned (.int .u32 (q:Int))∧q < 4294967296∧Hid (Own w' base g N cap P')∧w.grownBy w' (some g)∧Hid (r1_ P D P' i q)
theorem mw_(w0 w:World)(g i N cap c m dcap:Nat)(P D:List Nat)(d:OA_)(hO:Own w w0.heap.size g N cap P)(hB:Below w0.heap.size w0 w)(hd:Wd w0 d (m+2) dcap D)(hi:i+m+2 < N)(hc:m+3≤c)(hc2:c≤9223372036854775807)(hN:N≤2097152000000)(hv:Hid (2147483648≤atw D (m+1)))(hlt:Hid (val P < 4294967296 ^ (i+1) * val D)) :
 Calls Tryz.prog 176 #[.slice (some ⟨g,i,none⟩) (m+3) c,.slice d (m+2) dcap] w (po_ w0.heap.size g N cap i D P w):=by
 have HF:Hid (Flat P (i+(m+2)+1)):=hd_ (qv_ (by
  have h1:=hlt.out
  have h2:=fs_ hd.ok
  rw[hd.len] at h2
  have h3:4294967296 ^ (i+1) * val D≤4294967296 ^ (i+1) * 4294967296 ^ (m+2):=Nat.mul_le_mul_left _ (by omega)
  rw[←Nat.pow_add,show i+1+(m+2)=i+(m+2)+1 by omega] at h3
  generalize 4294967296 ^ (i+(m+2)+1)=y1 at *
  generalize 4294967296 ^ (i+1) * val D=y2 at *
  omega))
 have HG:=hd_ (rh_ hO.2 hd.ok hd.len (by have:=HF.out;rwa [show i+(m+2)+1=i+m+3 by omega] at this) hv.out hlt.out)
 have Hwin:=hd_ (hO.window (i:=i) (k:=m+3) (c:=c) (by omega) (by omega) hc hc2)
 have e1:atw ((P.drop i).take (m+3)) (m+2)=atw P (i+m+2):=by rw[gf_ (by omega),ej_,Nat.add_assoc]
 have e0:atw ((P.drop i).take (m+3)) (m+1)=atw P (i+m+1):=by rw[gf_ (by omega),ej_,Nat.add_assoc]
 have He:Hid (c4_ (atw ((P.drop i).take (m+3)) (m+2)) (atw ((P.drop i).take (m+3)) (m+1)) (atw D (m+1)) (atw D m)=c4_ (atw P (i+m+2)) (atw P (i+m+1)) (atw D (m+1)) (atw D m)):=hd_ (by rw[e1,e0])
 have HO:=hd_ hO
 have Hd:=hd_ hd
 clear e1 e0 hO hd
 have hbase:=HO.out.base
 go_enter Tryz.func176,Tryz.ntmps176
 go_wp2_with fail
 refine (qy_ _ _ _ _ _ _ (m+2) (m+1) m _ _ Hwin.out (Hd.out.later hB) (by omega) (by omega) (by omega)).mono ?_
 rintro e w' ⟨rfl,p,rfl⟩
 rw[He.out]
 have hgw:=HG.out.2.2
 have HG2:Hid (top P i < (c4_ (atw P (i+m+2)) (atw P (i+m+1)) (atw D (m+1)) (atw D m)+1) * val D∧c4_ (atw P (i+m+2)) (atw P (i+m+1)) (atw D (m+1)) (atw D m) * val D≤top P i+val D):=hd_ ⟨HG.out.1,HG.out.2.1⟩
 clear HG He
 generalize c4_ (atw P (i+m+2)) (atw P (i+m+1)) (atw D (m+1)) (atw D m)=q at *
 have hBd:=below_drewN hB p
 have HOd:=hd_ (show Own (w.drewN p) w0.heap.size g N cap P from HO.out)
 go_wp2_with fail
 refine (ph_ w0 (w.drewN p) g i N cap c (m+2) dcap q P D d HOd.out hBd Hd.out (by omega) hgw hN HF.out).mono ?_
 rintro e w1 ⟨P1,b,rfl,hb,HO1,hG1,HV1,HF1⟩
 have hG01:=da_ (ow_ (hw_ w (some g)) p) hG1
 have hB1:=fm_ hBd hG1 hbase.1
 by_cases hb0:b=0
 ·subst hb0
  have HT:Hid (r1_ P D P1 i q):=hd_ (taken_yes HO.out.2 HG2.out.1 HV1.out)
  go_wp2
  go_ret
  exact⟨P1,q,rfl,hgw,HO1,hG01,HT⟩
 ·have hb1:b=1:=by omega
  have hbi:(0:Int) < (b:Int):=by omega
  have HV1':=hd_ (hb1▸HV1.out)
  clear hb0 hb1 HV1
  go_wp2_with fail
  refine (m0_ w0 _ g i N cap c (m+2) dcap P1 D d HO1.out hB1 Hd.out (by omega) hN HF1.out).mono ?_
  rintro e w2 ⟨P2,z,rfl,hz,HO2,hG2,HV2,HF2⟩
  have HT:=hd_ (rk_ HO.out.2 (flat_lt HO1.out.2 HF1.out) (flat_lt HO2.out.2 HF2.out) HG2.out.2 hz HV1'.out HV2.out)
  have hq1:1≤q:=HT.out.1
  have hG02:=da_ hG01 hG2
  obtain⟨q1,hq⟩:∃q1:Nat,(q:Int) - 1=(q1:Int):=⟨q - 1,by omega⟩
  have Hq:Hid (q - 1=q1):=hd_ (by omega)
  go_wp2
  go_ret
  exact⟨P2,q1,rfl,by omega,HO2,hG02,hd_ (by rw[←Hq.out];exact HT.out.2)⟩
def WordPost (v x:Nat) (w:World) (e:Ending) (w':World):Prop:=
 ∃(a:OA_) (n cap:Nat),e=.returned (.tuple #[.slice a n cap,.int .u32 ((v % x:Nat):Int),.bool true])∧Wd w' a n cap (dg (v / x))∧Below w.heap.size w w'
def pa_ (v x:Nat) (w:World) (e:Ending) (w':World):Prop:=
 ∃(g n:Nat),e=.returned (.tuple #[.slice (some ⟨g,0,none⟩) n n,.int .u32 ((v % x:Nat):Int),.bool true])∧Own w' w.heap.size g n n (dg (v / x))∧Below w.heap.size w w'
theorem l3_(a:OA_)(n cap:Nat)(l:List Nat)(x:Nat)(w:World)(h:Wd w a n cap l)(hn:n≤1048576000000)(hx:x < 4294967296)(h0:0 < x):Calls Tryz.prog 166 #[.slice a n cap,.int .u32 (x:Int)] w (pa_ (val l) x w):=by
 have hmn:(dg (val l)).length≤n:=h.trim_le
 have H:=hd_ h
 have hxz:((x:Int) == 0)=false:=by simp;omega
 clear h
 go_enter Tryz.func166,Tryz.ntmps166
 go_wp2_with fail
 refine (it_ _ _ _ _ _ H.out (by omega)).mono ?_
 rintro e w1 ⟨g,m,rfl,Hm,Hown,hB1⟩
 have HO1:Hid (Own w1 w.heap.size g m m (dg (val l))):=hd_ ⟨Hown.out,cs_ _⟩
 have hm:m≤1048576000000:=by rw[Hm.out];omega
 have HL:Hid (okw (dg (val l))∧(dg (val l)).length=m∧val (dg (val l))=val l):=hd_ ⟨cs_ _,Hm.out.symm,a8_ _⟩
 clear Hown Hm hmn H
 generalize dg (val l)=L at HO1 HL
 go_wp2
 go_loopw [5,7] (fun rv iv wr=>∃(k r:Nat) (Q:List Nat),k≤m∧iv=.int .i64 ((k:Int) - 1)∧rv=.int .u32 (r:Int)∧r < x∧Hid (m2_ x L Q k r)∧Hid (Own wr w.heap.size g m m Q)∧Below w.heap.size w wr) (fun _ iv _=>(intOf iv+1).toNat)
 case atStart=>exact⟨m,0,L,by omega,by go_num,rfl,h0,hd_ ⟨by rw[gq_ (by rw[HL.out.2.1];omega)];simp,h0,fun j _=>rfl,rfl⟩,HO1,hB1⟩
 case round=>
  clear HO1 hB1
  obtain⟨k,r,Q,hk,rfl,rfl,hr,HW,HO,hB⟩:=hrel
  cases k with
  | zero=>
    have Hfin:=hd_ (word_end HW.out HL.out.2.2)
    have hr2:r=val l % x:=Hfin.out.2
    have Hq:Hid (val Q=val l / x):=hd_ Hfin.out.1
    have Hr:=hd_ hr2
    clear hr2 Hfin
    go_wp2_with fail
    refine (it_ _ _ _ _ _ HO.out.wd (by omega)).mono ?_
    rintro e w2 ⟨g2,n2,rfl,Hm2,h2,b2⟩
    rw[Hq.out] at h2
    have H2:Hid (Own w2 w.heap.size g2 n2 n2 (dg (val l / x))):=hd_ (Own.lower ⟨h2.out,cs_ _⟩ hB.size)
    clear h2
    go_wp2
    go_ret3
    exact⟨g2,n2,by rw[←Hr.out];rfl,H2.out,ab_ hB b2⟩
  | succ k=>
    have e1:((k+1:Nat):Int) - 1=(k:Int):=by omega
    rw[e1]
    clear e1
    have hcell:=HO.out.cell (k:=k) (by omega)
    rw[HW.out.2.2.1 k (by omega)] at hcell
    have hfro:=HO.out.1.frozenAt k
    have huw:=bw_ HL.out.1 k
    obtain⟨u,huu⟩:∃u,u=atw L k:=⟨_,rfl⟩
    rw[←huu] at huw hcell
    have Hu:=hd_ huu
    have hb:=HO.out.base
    obtain⟨q,hq⟩:∃q,q=(r * 4294967296+u) / x:=⟨_,rfl⟩
    obtain⟨s,hs⟩:∃s,s=(r * 4294967296+u) % x:=⟨_,rfl⟩
    have hqw:q < 4294967296:=by rw[hq];exact Nat.div_lt_of_lt_mul (by omega)
    have hsx:s < x:=by rw[hs];exact Nat.mod_lt _ h0
    have HQ:=hd_ hq
    have HS:=hd_ hs
    have hki:(k:Int) < (m:Int):=by omega
    clear huu hq hs
    go_wp2_with fail
    refine (ig_ r u x q s _ huw hx hr HQ HS).mono ?_
    rintro e w' ⟨rfl,p,rfl⟩
    have HOs:=hd_ ((show Own (wr.drewN p) w.heap.size g m m Q from HO.out).set k q hqw)
    have HBs:=hd_ ((below_drewN hB p).setCell (p:=⟨g,k,none⟩) hb.1 (.int .u32 (q:Int)))
    have HW2:Hid (m2_ x L (Q.set k q) k s):=hd_ (by
     have h1:=word_down HW.out (by omega) (by rw[HO.out.len];omega)
     rwa [←Hu.out,←HQ.out,←HS.out] at h1)
    go_wp2
    go_roundw
    case rel=>exact⟨k,s,Q.set k q,by omega,by go_num,rfl,hsx,HW2,HOs,HBs.out⟩
    case measure=>simp[intOf]
theorem quot_word(a:OA_)(n cap:Nat)(l:List Nat)(x:Nat)(w:World)(h:Wd w a n cap l)(hn:n≤1048576000000)(hx:x < 4294967296)(h0:0 < x):Calls Tryz.prog 166 #[.slice a n cap,.int .u32 (x:Int)] w (WordPost (val l) x w):=
 (l3_ a n cap l x w h hn hx h0).mono fun _ _ ⟨_,_,he,ho,hb⟩=>⟨_,_,_,he,ho.wd,hb⟩
theorem ir_(w0 w:World)(g i N cap c M K W dcap:Nat)(P D:List Nat)(d:OA_)(hO:Own w w0.heap.size g N cap P)(hB:Below w0.heap.size w0 w)(hd:Wd w0 d M dcap D)(hM:2≤M)(hK:M=K+1)(hW:W=M+1)(hi:i+M < N)(hc:W≤c)(hc2:c≤9223372036854775807)(hN:N≤2097152000000)(hv:Hid (2147483648≤atw D K))(hlt:Hid (val P < 4294967296 ^ (i+1) * val D)) :
 Calls Tryz.prog 176 #[.slice (some ⟨g,i,none⟩) W c,.slice d M dcap] w (po_ w0.heap.size g N cap i D P w):=by
 obtain⟨m,rfl⟩:∃m,K=m+1:=⟨K - 1,by omega⟩
 subst hK
 subst hW
 exact mw_ w0 w g i N cap c m dcap P D d hO hB hd hi hc hc2 hN hv hlt
def LongPost2 (p q:Nat) (w:World) (e:Ending) (w':World):Prop:=
 ∃(a:OA_) (n cap:Nat) (b:OA_) (m cap':Nat),e=.returned (.tuple #[.slice a n cap,.slice b m cap'])∧Wd w' a n cap (dg p)∧Wd w' b m cap' (dg q)∧Below w.heap.size w w'
theorem quot_long(a:OA_)(na cap:Nat)(la:List Nat)(b:OA_)(M cap' vb:Nat)(w:World)(ha:Wd w a na cap la)(hb:Wd w b M cap' (dg vb))(hna:na≤524288000000)(hM2:2≤M)(hMn:M≤1048576000000)(hle:Hid (vb≤val la)) :
 Calls Tryz.prog 167 #[.slice a na cap,.slice b M cap'] w (LongPost2 (val la / vb) (val la % vb) w):=by
 obtain⟨i0,hi,hz0,hz1,hz2⟩:=info_parts f4_
 obtain⟨K,hK⟩:∃K:Nat,(M:Int) - 1=(K:Int):=⟨M - 1,by omega⟩
 have HMl:Hid ((dg vb).length=M):=hd_ hb.len
 obtain⟨bb,ob,rfl,hcb⟩:=hb.at (by omega)
 have hcK:=hcb K (by omega)
 have hxw:=bw_ (cs_ vb) K
 obtain⟨x,hxx⟩:∃x,x=atw (dg vb) K:=⟨_,rfl⟩
 rw[←hxx] at hxw hcK
 obtain⟨s,hs⟩:∃s,s=32 - blen (atw (dg vb) K):=⟨_,rfl⟩
 have hnt:=norm_top (b:=vb) (m:=K) (by have:=HMl.out;omega) hs
 have hs32:s < 32:=hnt.1
 have HD:Hid ((dg (vb * 2 ^ s)).length=M∧2147483648≤atw (dg (vb * 2 ^ s)) K):=hd_ ⟨by have:=hnt.2.1;omega,hnt.2.2⟩
 have hbl:blen x≤32:=blen_le.2 hxw
 have hsi:(32:Int) - ((blen x:Nat):Int)=(s:Int):=by rw[hxx];have:=blen_le.2 (show atw (dg vb) K < 2 ^ 32 from bw_ (cs_ vb) K);omega
 have Ha:=hd_ ha
 have Hb:=hd_ hb
 have hKi:(K:Int) < (M:Int):=by omega
 have hv0:Hid (0 < vb):=hd_ (by
  rcases Nat.eq_zero_or_pos vb with h | h
  ·have:=HMl.out;rw[h,cn_] at this;simp at this;omega
  ·exact h)
 clear hxx hs hnt ha hb hcb
 generalize hbx:blen x=y at *
 have Hbx:=hd_ hbx
 clear hbx
 go_enter Tryz.func167,Tryz.ntmps167
 go_wp2_with fail
 refine (ih_ x _ hxw).mono ?_
 rintro e w' ⟨rfl,rfl⟩
 rw[Hbx.out]
 go_wp2_with fail
 refine (twos_up _ _ _ _ (s:Int) _ Hb.out (by omega)).mono ?_
 rintro e w1 ⟨d,dn,dcap,rfl,hd,hB1⟩
 rw[show min (s:Int).toNat 4096=s by omega,a8_] at hd
 have hdn:dn=M:=by rw[←hd.len];exact HD.out.1
 subst hdn
 have Hd:=hd_ hd
 have HD2:Hid (okw (dg (vb * 2 ^ s))∧val (dg (vb * 2 ^ s))=vb * 2 ^ s):=hd_ ⟨cs_ _,a8_ _⟩
 clear hd
 have Ha1:=Ha.l_ hB1
 go_wp2_with fail
 refine (kh_ _ _ _ _ (s:Int) _ Ha1.out (by omega)).mono ?_
 rintro e w2 ⟨a2,n2,c2,rfl,h2,hB2,hown⟩
 rw[show min (s:Int).toNat 4096=s by omega] at h2 hown
 obtain⟨g,rfl,HO2⟩:=hown (Nat.ne_of_gt (Nat.mul_pos (by have h1:=hle.out;have h2:=hv0.out;omega) (Nat.two_pow_pos s)))
 obtain⟨A,hA⟩:∃A,A=val la * 2 ^ s:=⟨_,rfl⟩
 rw[←hA] at h2 HO2
 have HA:=hd_ hA
 have hn2:n2≤524288000001∧dn≤n2:=by
  have h3:=h2.len
  have h4:=fs_ Ha.out.ok
  rw[Ha.out.len] at h4
  refine ⟨?_,?_⟩
  ·have h5:2 ^ s≤4294967296 ^ 1:=Nat.le_trans (Nat.pow_le_pow_right (by decide) (show s≤32 by omega)) (by decide)
   have h6:=Nat.mul_lt_mul_of_lt_of_le h4 h5 (i8_ 1)
   rw[←Nat.pow_add,←hA] at h6
   have h7:=be_ h6
   omega
  ·rw[←h3,←HD.out.1]
   apply az_
   rw[hA]
   exact Nat.mul_le_mul_right _ hle.out
 obtain⟨hn2,hMn2⟩:=hn2
 have HAl:Hid ((dg A).length=n2):=hd_ h2.len
 clear h2 hA
 go_wp2_with (at_builtin;refine wpList_append_own _ rfl _ _ 25 rfl w1.heap.size 81 i0 (.int .u32 0) 1 4 Tryz.underlying25 hi hz0 hz1 hz2 rfl (by decide) _ n2 _ rfl (HO2.out.1.alloc _) ⟨w2.heap.size,0,none⟩ 1 1 (cl_ [0]) rfl rfl (Wd.lit1 w2 81 (x:=0) (by omega)).cells (d2_ _) (by unfold maxLen;omega) (by omega) (by simp;have:=hB2.size;omega) ?_)
 intro v' w3 hown3 hgrow3 _
 obtain⟨g3,cap3,rfl,HO3'⟩:=Own.push (r:=0) hown3 HO2.out.2 (by decide)
 have HO3:=hd_ HO3'
 have hbase2:=HO2.out.base
 have hB3:Below w1.heap.size w1 w3:=(hB2.alloc hB2.size _).grown hgrow3 (by simp;have:=hB2.size;omega) (by intro k hk;simp[Value.ownBlock] at hk;omega)
 obtain⟨hc3a,hc3b⟩:=HO3.out.bound
 clear HO3' hown3 hgrow3 hbase2 HO2
 obtain⟨N,hN⟩:∃N:Nat,N=n2+1:=⟨_,rfl⟩
 rw[←hN] at HO3 hc3a ⊢
 have HN:=hd_ hN
 have hNd:dn < N:=by omega
 have hNb:N≤524288000002:=by omega
 clear hN
 obtain⟨n,hnn⟩:∃n:Nat,(N:Int) - (dn:Int)=(n:Int):=⟨N - dn,by omega⟩
 have HNn:Hid (N=n+dn):=hd_ (by omega)
 have hnb:n≤1048576000001:=by omega
 have hb3s:=hB3.size
 go_wp2_with (at_make;refine cx_ _ rfl _ _ 25 rfl w1.heap.size 81 i0 (.int .u32 0) Tryz.underlying25 hi hz0 hz1 rfl .i64 .i64 _ _ n n rfl rfl rfl rfl (by omega) (by rw[hz2];omega) (by unfold maxLen;omega) hb3s ?_;intro w4 hown4 hgrow4)
 rw[er_] at hown4
 have HQ4:Hid (Own w4 w1.heap.size w3.heap.size n n (List.replicate n 0)):=hd_ ⟨hown4,g5_ n⟩
 have HO4:=hd_ (HO3.out.stay hgrow4)
 have hB4:Below w1.heap.size w1 w4:=hB3.grown hgrow4 hb3s (fun k hk=>by cases hk)
 have hg3:g3≠w3.heap.size:=by have:=HO3.out.base;omega
 generalize w3.heap.size=gq at *
 have hgqb:w1.heap.size≤gq:=hb3s
 have HL4:=hd_ (r0_ (A:=A) (n:=n) (m:=K) (D:=dg (vb * 2 ^ s)) (by have h1:=HAl.out;have h2:=HN.out;have h3:=HNn.out;omega) (by have h1:=HD.out.1;omega) HD.out.2)
 clear hown4 hgrow4 HO3 hB3 hb3s
 go_loopw [9] (fun iv wr=>∃(k:Nat) (Q P:List Nat),k≤n∧iv=.int .i64 ((k:Int) - 1)∧Hid (nz_ A (dg (vb * 2 ^ s)) Q P k)∧Hid (Own wr w1.heap.size gq n n Q)∧Hid (Own wr w1.heap.size g3 N cap3 P)∧Below w1.heap.size w1 wr) (fun iv _=>(intOf iv+1).toNat)
 case atStart=>exact⟨n,List.replicate n 0,dg A ++ [0],by omega,by go_num,HL4,HQ4,HO4,hB4⟩
 case round=>
  clear HQ4 HO4 hB4 HL4
  obtain⟨k,Q,P,hk,rfl,HL,HQ,HO,hB⟩:=hrel
  cases k with
  | zero=>
    have Hfin:=hd_ (long_end HL.out)
    have Hq:Hid (val Q=val la / vb):=hd_ (by rw[Hfin.out.1,HD2.out.2,HA.out,(kq_ _ _ _).1])
    have Hr:Hid (val P / 2 ^ s=val la % vb):=hd_ (by rw[Hfin.out.2,HD2.out.2,HA.out,(kq_ _ _ _).2])
    have HP:=hd_ HO.out.wd
    clear Hfin HL
    go_wp2_with fail
    refine (natSaid.norm _ _ _ _ _ HQ.out.wd (by omega)).mono ?_
    rintro e w5 ⟨a5,n5,c5,rfl,h5,b5⟩
    rw[Hq.out] at h5
    have H5:=hd_ h5
    clear h5
    go_wp2_with fail
    refine (twos_down _ _ _ _ (s:Int) _ (HP.out.later b5) (by omega) (by omega)).mono ?_
    rintro e w6 ⟨a6,n6,c6,rfl,h6,b6⟩
    rw[Int.toNat_natCast,Hr.out] at h6
    have H6:=hd_ h6
    have H5b:=H5.l_ b6
    clear h6
    go_wp2
    go_ret2
    exact⟨a5,n5,c5,a6,n6,c6,rfl,H5b.out,H6.out,ab_ hB1 (ab_ hB (ab_ b5 b6))⟩
  | succ k=>
    have e1:((k+1:Nat):Int) - 1=(k:Int):=by omega
    rw[e1]
    clear e1
    obtain⟨t,ht⟩:∃t:Nat,(k:Int)+(dn:Int)=(t:Int):=⟨k+dn,by omega⟩
    obtain⟨t1,ht1⟩:∃t1:Nat,(t:Int)+1=(t1:Int):=⟨t+1,by omega⟩
    have htc:t1≤cap3:=by have:=HNn.out;omega
    have hkt:k≤t1:=by omega
    have hbq:=HQ.out.base
    have hbo:=HO.out.base
    have HLT:Hid (val P < 4294967296 ^ (k+1) * val (dg (vb * 2 ^ s))):=hd_ HL.out.2.1
    go_wp2_with fail
    refine (ir_ w1 _ g3 k N cap3 _ dn K _ dcap P _ d HO.out hB Hd.out hM2 (by omega) (by omega) (by have:=HNn.out;omega) (by omega) (by omega) (by omega) (hd_ HD.out.2) HLT).mono ?_
    rintro e w5 ⟨P5,q,rfl,hq,HO5,hG5,HT5⟩
    have HQ5:=hd_ (HQ.out.other hG5 (Ne.symm hg3))
    have hcell:=HQ5.out.cell (k:=k) (by omega)
    have hfro:=HQ5.out.1.frozenAt k
    generalize atw Q k=old at hcell
    have hB5:=fm_ hB hG5 hbo.1
    have HQ6:=hd_ (HQ5.out.set k q hq)
    have HO6:=hd_ (HO5.out.other (cq_ w5 gq k (.int .u32 (q:Int))) hg3)
    have hB6:=hd_ (hB5.setCell (p:=⟨gq,k,none⟩) hbq.1 (.int .u32 (q:Int)))
    have HL6:=hd_ (long_step HL.out (by rw[HQ.out.len];omega) HT5.out)
    clear hB5 HO5 HQ5 HT5 HL HLT hG5
    go_wp2
    go_roundw
    case rel=>exact⟨k,Q.set k q,P5,by omega,by go_num,HL6,HQ6,HO6,hB6.out⟩
    case measure=>simp[intOf]


theorem Wds.take{w:World}{a:Option Addr}{n cap:Nat}{ls:List (List Nat)}(h:Wds w a n cap ls){k:Nat}(hk:k≤n):Wds w a k cap (ls.take k):=by
 obtain⟨h1,h2,h3,h4,h5⟩:=h
 refine ⟨by rw[List.length_take];omega,by omega,h3,h4,?_⟩
 rcases h5 with h0 | ⟨b,off,e,hc⟩
 ·exact .inl (by omega)
 ·refine .inr ⟨b,off,e,fun j hj=>?_⟩
  obtain⟨a',n',c',h6,h7⟩:=hc j (by omega)
  refine ⟨a',n',c',h6,?_⟩
  rwa [List.getD_eq_getElem?_getD,List.getElem?_take,if_pos hj,←List.getD_eq_getElem?_getD]
theorem Wds.drop{w:World}{b off m cap q:Nat}{ls:List (List Nat)}(h:Wds w (some ⟨b,off,none⟩) (q+m) cap ls):Wds w (some ⟨b,off+q,none⟩) m (cap - q) (ls.drop q):=by
 have h1:=h.bound
 have h2:=h.len
 refine ⟨by rw[List.length_drop];omega,by omega,by omega,fun e=>(by cases e),?_⟩
 rcases h.2.2.2.2 with h0 | ⟨b',off',e,hc⟩
 ·exact .inl (by omega)
 ·simp only[Option.some.injEq,Addr.mk.injEq,and_true] at e
  obtain⟨rfl,rfl⟩:=e
  refine .inr ⟨b,off+q,rfl,fun j hj=>?_⟩
  obtain⟨a',n',c',h6,h7⟩:=hc (q+j) (by omega)
  exact⟨a',n',c',by rw[Nat.add_assoc];exact h6,by rwa [List.getD_eq_getElem?_getD,List.getElem?_drop,←List.getD_eq_getElem?_getD]⟩
theorem m6_(a:OA_)(n cap:Nat)(l:List Nat)(x c0:Nat)(w:World)(h:Wd w a n cap l)(hn:n≤4194304000000)(hx:x < 4294967296)(hc0:c0 < 4294967296) :
 Calls Tryz.prog 172 #[.slice a n cap,.int .u32 (x:Int),.int .u32 (c0:Int)] w (Lst (dg (val l * x+c0)) w):=by
 obtain⟨i0,hi,hz0,hz1,hz2⟩:=info_parts f4_
 have H:=hd_ h
 clear h
 go_enter Tryz.func172,Tryz.ntmps172
 go_wp2_with (at_make;refine cx_ _ rfl _ _ 25 rfl w.heap.size 81 i0 (.int .u32 0) Tryz.underlying25 hi hz0 hz1 rfl .i64 .i64 _ _ 0 (n+1) rfl rfl (by omega) (by omega) (by omega) (by rw[hz2];omega) (by unfold maxLen;omega) (Nat.le_refl _) ?_;intro w1 hown1 hgrow1)
 rw[er_] at hown1
 have HO1:Hid (Own w1 w.heap.size w.heap.size 0 (n+1) []):=hd_ ⟨hown1,h9_⟩
 have hB1:Below w.heap.size w w1:=(Below.refl _ _).grown hgrow1 (Nat.le_refl _) (fun k hk=>by cases hk)
 clear hown1 hgrow1
 go_loopw [7,8,19] (fun s cv i wr=>∃(j c g cap2:Nat) (o:List Nat),j≤n∧i=.int .i64 (j:Int)∧cv=.int .u32 (c:Int)∧c < 4294967296∧s=.slice (some ⟨g,0,none⟩) j cap2∧Hid (o.length=j)∧Hid (val o+4294967296 ^ j * c=low l j * x+c0)∧Hid (Own wr w.heap.size g j cap2 o)∧Below w.heap.size w wr) (fun _ _ i _=>n - (intOf i).toNat)
 case atStart=>exact⟨0,c0,_,_,[],by omega,rfl,rfl,hc0,rfl,hd_ rfl,hd_ (by rw[dk_];simp[val]),HO1,hB1⟩
 case round=>
  clear HO1 hB1
  obtain⟨j,c,g,cap2,o,hj,rfl,rfl,hc,rfl,Hol,Hv,HO,hB⟩:=hrel
  have hbase:w.heap.size≤wr.heap.size:=hB.size
  by_cases hlt:j < n
  ·obtain⟨b,off,rfl,hcl⟩:=(H.out.later hB).at (by omega)
   have hck:=hcl j hlt
   have hyw:=bw_ H.out.ok j
   obtain⟨y,hyy⟩:∃y,y=atw l j:=⟨_,rfl⟩
   rw[←hyy] at hyw hck
   have Hy:=hd_ hyy
   have hj1:(j:Int) < (n:Int):=by omega
   clear hcl hyy
   go_wp2_with fail
   refine (mc_ y x c _ hyw hx hc).mono ?_
   rintro e w' ⟨c2,z,rfl,hc2,hz,Hs,rfl⟩
   go_wp2_with (at_builtin;refine wpList_append_own _ rfl _ _ 25 rfl w.heap.size 81 i0 (.int .u32 0) 1 4 Tryz.underlying25 hi hz0 hz1 hz2 rfl (by decide) _ j _ rfl (HO.out.1.alloc _) ⟨wr.heap.size,0,none⟩ 1 1 (cl_ [z]) rfl rfl (Wd.lit1 wr 81 (x:=z) hz).cells (d2_ _) (by unfold maxLen;omega) (by omega) (by simp;omega) ?_)
   intro v' w2 hown hgrow _
   obtain⟨g2,cap3,rfl,HO2⟩:=Own.push (r:=z) hown HO.out.2 hz
   have HO':=hd_ HO2
   have hb:=HO.out.base
   have hB1:Below w.heap.size w w2:=(hB.alloc hbase _).grown hgrow (by simp;omega) (by intro k hk;simp[Value.ownBlock] at hk;omega)
   clear HO2 hown hgrow
   go_wp2
   go_roundw
   case rel=>exact⟨j+1,c2,g2,cap3,o ++ [z],by omega,by go_num,rfl,hc2,rfl,hd_ (by have:=Hol.out;simp;omega),hd_ (word_step Hol.out Hv.out (by rw[←Hy.out];exact Hs.out)),HO',hB1⟩
   case measure=>simp[intOf];omega
  ·obtain rfl:j=n:=by omega
   have Hv2:Hid (val (o ++ [c])=val l * x+c0):=hd_ (by rw[d4_,Hol.out,Hv.out,fa_ (by rw[H.out.len];omega)])
   clear hlt Hv
   go_wp2_with (at_builtin;refine wpList_append_own _ rfl _ _ 25 rfl w.heap.size 81 i0 (.int .u32 0) 1 4 Tryz.underlying25 hi hz0 hz1 hz2 rfl (by decide) _ j _ rfl (HO.out.1.alloc _) ⟨_,0,none⟩ 1 1 (cl_ [c]) rfl rfl (Wd.lit1 _ 81 (x:=c) hc).cells (d2_ _) (by unfold maxLen;omega) (by omega) (by simp;omega) ?_)
   intro v' w2 hown hgrow _
   obtain⟨g2,cap3,rfl,HO2⟩:=Own.push (r:=c) hown HO.out.2 hc
   have HO':=hd_ HO2
   have hb:=HO.out.base
   have hB1:Below w.heap.size w w2:=(hB.alloc hbase _).grown hgrow (by simp;omega) (by intro k hk;simp[Value.ownBlock] at hk;omega)
   clear HO2 hown hgrow
   go_wp2_with fail
   refine (natSaid.norm _ _ _ _ _ HO'.out.wd (by omega)).mono ?_
   rintro e w' ⟨a',n',c',rfl,hwd,hbel⟩
   rw[Hv2.out] at hwd
   have HWD:=hd_ hwd
   clear hwd
   go_wp2
   go_ret
   exact⟨_,_,_,rfl,HWD.out,ab_ hB1 hbel⟩








theorem Rw.lit2(w:World)(e:TypeId){q p:Rat}{a b a' b':Option Addr}{n c m d n' c' m' d':Nat}(h1:Wd w a n c (dg q.num.natAbs))(h2:Wd w b m d (dg q.den))(h3:Wd w a' n' c' (dg p.num.natAbs))(h4:Wd w b' m' d' (dg p.den)) :
 Rw (w.alloc (.cells #[.bool (zneg q.num),.slice a n c,.slice b m d,.bool (zneg p.num),.slice a' n' c',.slice b' m' d'] e)) (some ⟨w.heap.size,0,none⟩) 2 2 [q,p]:=by
 have hb:Below w.heap.size w (w.alloc (.cells #[.bool (zneg q.num),.slice a n c,.slice b m d,.bool (zneg p.num),.slice a' n' c',.slice b' m' d'] e)):=aa_ _ _
 have hx:=aj_ w #[.bool (zneg q.num),.slice a n c,.slice b m d,.bool (zneg p.num),.slice a' n' c',.slice b' m' d'] e
 refine ⟨[rx q a n c b m d,rx p a' n' c' b' m' d'],⟨rfl,Nat.le_refl _,by omega,fun h=>(by cases h),fun x hx=>?_,.inr ⟨w.heap.size,0,rfl,fun j hj=>?_⟩⟩,by simp[rx_q],fun x hx=>?_⟩
 ·simp only[List.mem_cons,List.not_mem_nil,or_false] at hx
  rcases hx with rfl | rfl
  ·exact⟨h1.later hb,h2.later hb⟩
  ·exact⟨h3.later hb,h4.later hb⟩
 ·match j,hj with
  | 0,_=>exact⟨ad_ hx 0,ad_ hx 1,ad_ hx 2⟩
  | 1,_=>exact⟨ad_ hx 3,ad_ hx 4,ad_ hx 5⟩
 ·simp only[List.mem_cons,List.not_mem_nil,or_false] at hx
  rcases hx with rfl | rfl
  ·exact de_ ..
  ·exact de_ ..
theorem Rw.lit3(w:World)(e:TypeId){q p r:Rat}{a b a' b' a2 b2:Option Addr}{n c m d n' c' m' d' n2 c2 m2 d2:Nat}(h1:Wd w a n c (dg q.num.natAbs))(h2:Wd w b m d (dg q.den))(h3:Wd w a' n' c' (dg p.num.natAbs))(h4:Wd w b' m' d' (dg p.den))(h5:Wd w a2 n2 c2 (dg r.num.natAbs))(h6:Wd w b2 m2 d2 (dg r.den)) :
 Rw (w.alloc (.cells #[.bool (zneg q.num),.slice a n c,.slice b m d,.bool (zneg p.num),.slice a' n' c',.slice b' m' d',.bool (zneg r.num),.slice a2 n2 c2,.slice b2 m2 d2] e)) (some ⟨w.heap.size,0,none⟩) 3 3 [q,p,r]:=by
 have hb:Below w.heap.size w (w.alloc (.cells #[.bool (zneg q.num),.slice a n c,.slice b m d,.bool (zneg p.num),.slice a' n' c',.slice b' m' d',.bool (zneg r.num),.slice a2 n2 c2,.slice b2 m2 d2] e)):=aa_ _ _
 have hx:=aj_ w #[.bool (zneg q.num),.slice a n c,.slice b m d,.bool (zneg p.num),.slice a' n' c',.slice b' m' d',.bool (zneg r.num),.slice a2 n2 c2,.slice b2 m2 d2] e
 refine ⟨[rx q a n c b m d,rx p a' n' c' b' m' d',rx r a2 n2 c2 b2 m2 d2],⟨rfl,Nat.le_refl _,by omega,fun h=>(by cases h),fun x hx=>?_,.inr ⟨w.heap.size,0,rfl,fun j hj=>?_⟩⟩,by simp[rx_q],fun x hx=>?_⟩
 ·simp only[List.mem_cons,List.not_mem_nil,or_false] at hx
  rcases hx with rfl | rfl | rfl
  ·exact⟨h1.later hb,h2.later hb⟩
  ·exact⟨h3.later hb,h4.later hb⟩
  ·exact⟨h5.later hb,h6.later hb⟩
 ·match j,hj with
  | 0,_=>exact⟨ad_ hx 0,ad_ hx 1,ad_ hx 2⟩
  | 1,_=>exact⟨ad_ hx 3,ad_ hx 4,ad_ hx 5⟩
  | 2,_=>exact⟨ad_ hx 6,ad_ hx 7,ad_ hx 8⟩
 ·simp only[List.mem_cons,List.not_mem_nil,or_false] at hx
  rcases hx with rfl | rfl | rfl
  ·exact de_ ..
  ·exact de_ ..
  ·exact de_ ..



theorem Fz.congr{U V U' V':List Rat}{h s:Nat}(f:Fz U V h s)(hU:peq U U')(hV:peq V V')(lu:U'.length≤h)(lv:V'.length≤h):Fz U' V' h s:=by
 obtain⟨_,_,c,c1,c2,c3,c4⟩:=f
 exact⟨lu,lv,c,c1,c2,c3.congr (br_ _ hU),c4.congr (br_ _ hV)⟩



theorem cj_(a:OA_)(n c:Nat)(L:List Fx)(b:OA_)(m d:Nat)(M:List Fx)(K N:Int)(r:Bool)(w:World)(h:Fxs w a n c L)(k:Fxs w b m d M)(hK:0≤K∧K≤1000)(hr:r=true↔¬(((n:Int)≤K∧thinI N L)∧((m:Int)≤K∧thinI N M))) :
 Calls Tryz.prog 7 #[.agg #[.slice a n c,.slice b m d],.int .i64 K,.int .i64 N] w (bg_ (.bool r) w):=by
 have HB:=hd_ (aa_ w (.cells #[.slice a n c,.slice b m d] 24))
 have X0:=hd_ (aj_ w #[.slice a n c,.slice b m d] 24)
 have A1:=hd_ (h.later HB.out)
 have B1:=hd_ (k.later HB.out)
 obtain⟨x0,x1⟩:=bu_ X0.out
 clear h k
 by_cases hu:(n:Int)≤K∧thinI N L
 ·have H1:=fun w' h8=>ic_ a n c L K N false w' h8 hK (hd_ ⟨fun h9=>absurd h9 (by decide),fun h9=>absurd hu h9⟩)
  have hr2:r=true↔¬((m:Int)≤K∧thinI N M):=hr.trans ⟨fun h1 h2=>h1 ⟨hu,h2⟩,fun h1 h2=>h1 h2.2⟩
  have H2:=fun w' h8=>ic_ b m d M K N r w' h8 hK (hd_ hr2)
  clear hr hr2 hu
  go_enter Tryz.func7,Tryz.ntmps7
  go_wp2_with fail
  refine (H1 _ A1.out).mono ?_
  rintro e w1 ⟨rfl,bw⟩
  clear x0 x1 H1 A1
  replace HB:=bt_ HB bw
  replace X0:=bl_ X0 bw
  replace B1:=B1.l_ bw
  clear bw
  obtain⟨x0,x1⟩:=bu_ X0.out
  go_wp2_with fail
  refine (H2 _ B1.out).mono ?_
  rintro e w2 ⟨rfl,bw⟩
  replace HB:=bt_ HB bw
  clear bw x0 x1 X0 H2 B1
  go_wp2
  go_ret
  exact⟨rfl,HB.out⟩
 ·have H1:=fun w' h8=>ic_ a n c L K N true w' h8 hK (hd_ ⟨fun _=>hu,fun _=>rfl⟩)
  have hr2:r=true:=hr.2 (fun h1=>hu h1.1)
  subst hr2
  clear hr hu
  go_enter Tryz.func7,Tryz.ntmps7
  go_wp2_with fail
  refine (H1 _ A1.out).mono ?_
  rintro e w1 ⟨rfl,bw⟩
  clear x0 x1 H1 A1 B1 X0
  replace HB:=bt_ HB bw
  clear bw
  go_wp2
  go_ret
  exact⟨rfl,HB.out⟩


theorem Fxs.boxed{w:World}{a:Option Addr}{n c:Nat}{L:List Fx}(h:Fxs w a n c L){g:Nat}{x y:Option Addr}{n1 c1 n2 c2:Nat}{t:TypeId}(hg:w.heap[g]? = some (.cells #[.slice x n1 c1,.slice y n2 c2] t (0,0)))(u v:Value) :
 Fxs ((w.setCell ⟨g,0,none⟩ u).setCell ⟨g,1,none⟩ v) a n c L:=h.aside (v:=.slice (some ⟨g,0,none⟩) 0 0) (cz_ hg gd_) (da_ (cq_ w g 0 u) (cq_ _ g 1 v))
theorem qq_(a:OA_)(n c:Nat)(L:List Fx)(b:OA_)(m d:Nat)(M:List Fx)(w:World)(hU:Fxs w a n c L)(hV:Fxs w b m d M)(ln:n≤1000)(lm:m≤1000):Calls Tryz.prog 12 #[.agg #[.slice a n c,.slice b m d]] w
 (fun e w'=>∃(a':OA_) (c':Nat) (b':OA_) (d':Nat),e=.returned (.agg #[.slice a' n c',.slice b' m d'])∧Fxs w' a' n c' L∧Fxs w' b' m d' M∧Below w.heap.size w w'):=by
 have HTU:∀w':World,Fxs w' a n c L→_:=fun w' h9=>p1_ a n c L w' h9 ln
 have HTV:∀w':World,Fxs w' b m d M→_:=fun w' h9=>p1_ b m d M w' h9 lm
 have HB:=hd_ (ab_ (aa_ w (.cells #[.slice a n c,.slice b m d] 24)) (aa_ _ (.cells #[.slice none 0 0,.slice none 0 0] 35)))
 have X0:Hid (((w.alloc (.cells #[.slice a n c,.slice b m d] 24)).alloc (.cells #[.slice none 0 0,.slice none 0 0] 35)).heap[w.heap.size]? = some (.cells #[.slice a n c,.slice b m d] 24 (0,0))):=hd_ (ae_ (aj_ w _ _) (aa_ _ (.cells #[.slice none 0 0,.slice none 0 0] 35)))
 have R0:Hid (((w.alloc (.cells #[.slice a n c,.slice b m d] 24)).alloc (.cells #[.slice none 0 0,.slice none 0 0] 35)).heap[w.heap.size+1]? = some (.cells #[.slice none 0 0,.slice none 0 0] 35 (0,0))):=hd_ (by have h9:=aj_ (w.alloc (.cells #[.slice a n c,.slice b m d] 24)) #[.slice none 0 0,.slice none 0 0] 35;rwa [aq_] at h9)
 have A1:=hd_ (hU.later HB.out)
 have A2:=hd_ (hV.later HB.out)
 clear hU hV
 go_enter Tryz.func12,Tryz.ntmps12
 go_wp2
 generalize (w.alloc (.cells #[.slice a n c,.slice b m d] 24)).alloc (.cells #[.slice none 0 0,.slice none 0 0] 35)=W at *
 replace HB:=bt_ HB (dw_ W)
 replace X0:Hid (W.drew.heap[w.heap.size]? = _):=hd_ X0.out
 replace R0:Hid (W.drew.heap[w.heap.size+1]? = some (.cells #[.slice none 0 0,.slice none 0 0] 35 (0,0))):=hd_ R0.out
 replace A1:=A1.l_ (dw_ W)
 replace A2:=A2.l_ (dw_ W)
 have pSn:=ek_ X0.out
 go_region_held3 (fun w'=>w'.cell? ⟨w.heap.size,0,none⟩=some (.slice a n c)∧w'.cell? ⟨w.heap.size,1,none⟩=some (.slice b m d)) (first | exact pSn | exact pSb _ _)
  (first
  | (go_at_call 60;(first
    | (have pm1:=pM1;refine (HTV _ A2.out).mono ?_;rintro e wp2 ⟨a4,c4,rfl,h4,b⟩;replace HB:=bt_ HB b;replace X0:=bl_ X0 b;replace R0:=bl_ R0 b;replace A1:=A1.l_ b;replace A2:=A2.l_ b;replace P3:=P3.l_ b;have P4:=hd_ h4;clear h4;obtain⟨r0,r1⟩:=bu_ R0.out;have e0:=af_ R0.out 0;have e1:=af_ R0.out 1;have pSb:=fun u v=>ek_ (cv_ (g:=w.heap.size+1) X0.out (by omega) u v);clear b;clear pSn;have pSn:=ek_ X0.out;clear pM1 pm1;have pM2:=True.intro)
    | (refine (HTU _ A1.out).mono ?_;rintro e wp1 ⟨a3,c3,rfl,h3,b⟩;replace HB:=bt_ HB b;replace X0:=bl_ X0 b;replace R0:=bl_ R0 b;replace A1:=A1.l_ b;replace A2:=A2.l_ b;have P3:=hd_ h3;clear h3;clear b;clear pSn;have pSn:=ek_ X0.out;have pM1:=True.intro))))
 have R9:=hd_ (bk_ R0.out (.slice a3 n c3) (.slice a4 m c4))
 have P9:=hd_ (P3.out.boxed R0.out (.slice a3 n c3) (.slice a4 m c4))
 have Q9:=hd_ (P4.out.boxed R0.out (.slice a3 n c3) (.slice a4 m c4))
 have G9:=hd_ (a0_ HB.out (show w.heap.size≤w.heap.size+1 by omega) (.slice a3 n c3) (.slice a4 m c4))
 go_wp2
 refine bodyPost_ret (results_cell_row Tryz.results12 _ _ (w.heap.size+1) 35 #[.slice a3 n c3,.slice a4 m c4] (0,0) _ rfl R9.out Tryz.underlying35 rfl (by kernel_rfl)) rfl ?_
 exact⟨a3,c3,a4,c4,rfl,P9.out,Q9.out,G9.out⟩
structure FigureSaid:Prop where
structure RowSaid:Prop where
structure PolySaid:Prop where
 norm:∀(a:OA_) (n c:Nat) (L:List Fx) (w:World),Fxs w a n c L→n≤300→thin 2000000000 L→Calls Tryz.prog 95 #[.slice a n c] w (ds_ (ai_ (fqs L)) w)
 degree:∀(a:OA_) (n c:Nat) (L:List Fx) (w:World),Fxs w a n c L→n≤300→thin 2000000000 L→Calls Tryz.prog 61 #[.slice a n c] w (bg_ (.int .i64 ((plen (fqs L):Int) - 1)) w)
 same:∀(a:OA_) (n c:Nat) (L:List Fx) (b:OA_) (m d:Nat) (M:List Fx) (w:World),Fxs w a n c L→Fxs w b m d M→n≤300→m≤300→thin 1900000000 L→thin 1900000000 M→Calls Tryz.prog 74 #[.slice a n c,.slice b m d] w (bg_ (.bool (decide (ai_ (fqs L)=ai_ (fqs M)))) w)
 add:∀(a:OA_) (n c:Nat) (L:List Fx) (b:OA_) (m d:Nat) (M:List Fx) (w:World),Fxs w a n c L→Fxs w b m d M→n≤300→m≤300→thin 900000000 L→thin 900000000 M→Calls Tryz.prog 83 #[.slice a n c,.slice b m d] w (ds_ (ai_ (padd (fqs L) (fqs M))) w)
 mul:∀(a:OA_) (n c:Nat) (L:List Fx) (b:OA_) (m d:Nat) (M:List Fx) (N K:Nat) (w:World),Fxs w a n c L→Fxs w b m d M→n≤100→m≤100→thin N L→thin K M→(n+1) * (N+K+8)≤1900000000→Calls Tryz.prog 75 #[.slice a n c,.slice b m d] w (ds_ (ai_ (pmul (fqs L) (fqs M))) w)
 scale:∀(v:Value) (q:Rat) (a:OA_) (n c:Nat) (L:List Fx) (w:World),Fr w v q 900000000→Fxs w a n c L→n≤300→thin 900000000 L→Calls Tryz.prog 64 #[v,.slice a n c] w (ds_ (ai_ (ag_ q (fqs L))) w)
 eval:∀(a:OA_) (n c:Nat) (L:List Fx) (v:Value) (q:Rat) (N X:Nat) (w:World),Fxs w a n c L→Fr w v q X→n≤100→thin N L→(n+1) * ((n+1) * (X+8)+N+8)≤1900000000→Calls Tryz.prog 112 #[.slice a n c,v] w (LstQ (al_ q (fqs L)) w)
 div_more:∀(a:OA_) (n c:Nat) (L:List Fx) (b:OA_) (m d:Nat) (M:List Fx) (k l:Rat) (P Z:LR_) (S T:Nat) (w:World),Fxs w a n c L→Fxs w b m d M→n≤60→m≤60→thin 1900000000 L→thin 1900000000 M→Ints P (pw S)→Ints Z (pw S)→peq (fqs L) (ag_ k P)→peq (fqs M) (ag_ l Z)→4 * (qlen k+qlen l+(n+4) * (S+3))≤T→T≤1900000000→Hid (plen (fqs M)≠0)→Calls Tryz.prog 107 #[.slice a n c,.slice b m d] w (LstDiv (fqs L) (fqs M) T w)
 gcd_more:∀(a:OA_) (n c:Nat) (L:List Fx) (b:OA_) (m d:Nat) (M:List Fx) (g s S h:Nat) (w:World),Fxs w a n c L→Fxs w b m d M→n≤h→m≤h→h≤300→thin 1900000000 L→thin 1900000000 M→0 < g→g≤pw s→Ints (ag_ ((g:Nat):Rat) (fqs L)) (pw s)→Ints (ag_ ((g:Nat):Rat) (fqs M)) (pw s)→(s+1) * (plen (fqs L)+plen (fqs M)+1)=S→(2 * h+20) * (S+3)≤1900000000→Calls Tryz.prog 106 #[.slice a n c,.slice b m d] w (os_ (fqs L) (fqs M) (S+2) w)
def ReadAt (l:List UInt8) (f i:Nat) (V:LR_):Prop:=
 (f≤i∧i≤l.length∧i - f≤jw_ (l.drop f)∧io_ (fc_ l)=io_ (fc_ (l.drop f))∧ib_ 0 (fc_ l)=ib_ f (fc_ (l.drop f))∧(fc_ l).map qm_=V ++ (fc_ (l.drop f)).map qm_)∨
 (i=l.length+1∧f=i∧io_ (fc_ l)=0∧(fc_ l).map qm_=V)
theorem k1_:∀(P:List (List UInt8)) (off:Nat),io_ P=0→ib_ off P=0
 | [],_,_=>rfl
 | p :: P,off,h=>by
   rw[io_] at h
   split at h
   ·rename_i h2;exact absurd h h2
   ·rename_i h2
    rw[ib_,if_neg h2]
    exact k1_ P _ h
theorem ReadAt.start(l:List UInt8):ReadAt l 0 0 []:=.inl ⟨Nat.le_refl _,Nat.zero_le _,Nat.zero_le _,rfl,rfl,rfl⟩
theorem ReadAt.bound{l:List UInt8}{f i:Nat}{V:List Rat}(h:ReadAt l f i V):f≤i∧i≤l.length+1:=by
 rcases h with h | h
 ·exact⟨h.1,Nat.le_succ_of_le h.2.1⟩
 ·exact⟨Nat.le_of_eq h.2.1,Nat.le_of_eq h.1⟩
theorem ReadAt.done{l:List UInt8}{f i:Nat}{V:List Rat}(h:ReadAt l f i V)(hl:l≠[])(hi:l.length < i):rowKind l=0∧qp_ l=0∧rowVals l=V:=by
 rcases h with h | ⟨_,_,h1,h2⟩
 ·omega
 ·refine ⟨?_,?_,?_⟩
  ·unfold rowKind;rw[if_neg hl];exact h1
  ·unfold qp_;rw[if_neg hl];exact k1_ _ _ h1
  ·unfold rowVals;rw[if_neg (by rintro (h | h);exact hl h;exact h h1)];exact h2

end Go.Proofs.YtocebjbjnfammaaGreat
