import Derived.Test.YtocebjbjnfammaaGreatRows
import Derived.Test.YtocebjbjnfammaaGreatTG1
import Derived.Test.YtocebjbjnfammaaGreatTG2
import Derived.IntWalk
import Derived.Deep.QuietTactic
import Derived.BigQuiet
import Derived.Deep.AppendSrc
import Derived.Deep.DeepMust
import Derived.Laws.CopyOwn
import Derived.OwnWalk
import Derived.Lib.AppendIntMem
import Derived.Lib.LaidTab
import Derived.Lib.ItoaNum
import Derived.Laws.OwnMore
import Derived.Laws.MakeOwn
import Derived.BigRegion
import Derived.ProofKit
import Derived.OpenShut
import Derived.Deep.Matrix
import Derived.Lib.SmallJoins
import Derived.ChangeArms
set_option maxRecDepth 4096
set_option maxHeartbeats 16000000
namespace Go.Proofs.YtocebjbjnfammaaGreat
open Go.RowKit
theorem g9_:(Tryz.prog.info? 81).map (fun i=>(i.zero,i.size,i.bytes))=some (some (.int .u32 0),1,4):=by kernel_rfl
theorem own_heap{w:World}{base g:Nat}{e:TypeId}{n:Nat}{xs:List Value}(h:w.ownsRow base e 1 (.slice (some ⟨g,0,none⟩) n n) n xs):w.heap[g]? = some (.cells xs.toArray e (0,0)):=by
 rcases h.2 with ⟨h',_⟩ | ⟨g',cap',cur,h',_,hg,_,_,hcs,htake⟩
 ·simp at h'
 ·simp only[Value.slice.injEq,Option.some.injEq,Addr.mk.injEq,and_true,true_and] at h'
  obtain⟨rfl,rfl⟩:=h'
  rw[List.take_of_length_le (by rw[Array.length_toList,hcs];omega)] at htake
  rw[hg,←htake]
theorem v4_{w:World}{base g:Nat}{e:TypeId}{n:Nat}{xs:List Value}(h:w.heap[g]? = some (.cells xs.toArray e (0,0)))(hb:base≤g)(hl:xs.length=n)(hm:n≤maxLen):w.ownsRow base e 1 (.slice (some ⟨g,0,none⟩) n n) n xs:=
 ⟨by omega,.inr ⟨g,n,xs.toArray,rfl,hb,h,Nat.le_refl _,hm,by simp[hl],by rw[List.take_of_length_le (by simp[hl])]⟩⟩
theorem v5_{L cs:List Value}(h:cs.length=L.length):splice L 0 cs=cs:=by
 unfold splice;rw[List.drop_of_length_le (by omega)];simp
theorem Wd.some_cells{w w':World}{a:Option Addr}{n cap:Nat}{l:List Nat}(h:Wd w a n cap l)(h':Wd w' a n cap l)(hn:0 < n):∃ad,a=some ad∧∀j u,(cf_ l)[j]? = some u→w'.cell? (ad.add j)=some u:=by
 obtain⟨b,off,rfl,_⟩:=h.at hn
 exact⟨_,rfl,h'.cells⟩
theorem Wd.trim{w:World}{a:Option Addr}{n cap:Nat}{l:List Nat}(h:Wd w a n cap l):Wd w a (dg (val l)).length cap (dg (val l)):=by
 have h1:=h.take (k:=(dg (val l)).length) (by rw[←h.len];exact df_ h.ok)
 rwa [take_dg h.ok] at h1
theorem Wd.trim_le{w:World}{a:Option Addr}{n cap:Nat}{l:List Nat}(h:Wd w a n cap l):(dg (val l)).length≤n:=by rw[←h.len];exact df_ h.ok
def ua_ (a:OA_) (cap n:Nat) (l:List Nat) (w:World) (e:Ending) (w':World):Prop:=
 ∃m:Nat,e=.returned (.slice a m cap)∧Hid (m=(dg (val l)).length)∧m≤n∧Hid (Wd w a m cap (dg (val l)))∧w=w'
theorem rl_{a:Option Addr}{n cap k:Nat}{l:List Nat}{w:World}(h:Wd w a n cap l)(hk:k=(dg (val l)).length):ua_ a cap n l w (.returned (.slice a k cap)) w:=
 ⟨k,rfl,hd_ hk,by rw[hk];exact h.trim_le,hd_ (by rw[hk];exact h.trim),rfl⟩
theorem ej_(a:OA_)(n cap:Nat)(l:List Nat)(w:World)(h:Wd w a n cap l) :
 Calls Tryz.prog 135 #[.slice a n cap] w (ua_ a cap n l w):=by
 obtain⟨hb1,hb2⟩:=h.bound
 have H:=hd_ h
 clear h
 go_enter Tryz.func135,Tryz.ntmps135
 go_wp2
 go_loop [3] (fun i=>∃k:Nat,k≤n∧i=.int .i64 k∧Hid (top l k=0)) (fun i=>(intOf i).toNat)
 case atStart=>exact⟨n,by omega,rfl,hd_ (fl_ (by have:=H.out.len;omega))⟩
 case round=>
  obtain⟨k,hk,rfl,Ht⟩:=hrel
  cases k with
  | zero=>
    have Hfin:=hd_ (rl_ (k:=0) H.out (dg_stop (Nat.zero_le _) H.out.ok Ht.out (.inl rfl)).symm)
    cases a with
    | none=>
      obtain⟨rfl,rfl,rfl⟩:=H.out.ofNone
      go_wp2
      go_ret
      exact Hfin.out
    | some ad=>
      go_wp2
      go_ret
      exact Hfin.out
  | succ k=>
    obtain⟨b,off,rfl,hc⟩:=H.out.at (by omega)
    have hck:=hc k (by omega)
    clear hc
    by_cases hz:atw l k=0
    ·have hzb:(((atw l k:Nat):Int) == 0)=true:=by simp[hz]
     have Hz:=hd_ hz
     clear hz
     go_wp2
     go_round
     case rel=>exact⟨k,by omega,by go_num,hd_ (by rw[b6_,Hz.out,Ht.out])⟩
     case measure=>simp[intOf]
    ·have hzb:(((atw l k:Nat):Int) == 0)=false:=by simp[hz]
     have Hfin:=hd_ (rl_ (k:=k+1) H.out (dg_stop (by rw[H.out.len];exact hk) H.out.ok Ht.out (.inr (by simpa using hz))).symm)
     clear hz
     go_wp2
     go_ret
     exact Hfin.out
theorem kt_(w:World):Calls Tryz.prog 161 #[.bool true] w fun e w'=>e=.returned (.int .i64 (-1))∧w=w':=by
 go_enter Tryz.func161,Tryz.ntmps161
 go_wp2
 go_ret
 exact⟨rfl,rfl⟩
theorem m3_(w:World):Calls Tryz.prog 161 #[.bool false] w fun e w'=>e=.returned (.int .i64 1)∧w=w':=by
 go_enter Tryz.func161,Tryz.ntmps161
 go_wp2
 go_ret
 exact⟨rfl,rfl⟩
theorem nat_zero(a:OA_)(n cap:Nat)(l:List Nat)(w:World)(h:Wd w a n cap l) :
 Calls Tryz.prog 93 #[.slice a n cap] w (bf_ (.bool (decide (val l=0))) w):=by
 obtain⟨hb1,hb2⟩:=h.bound
 have H:=hd_ h
 clear h
 go_enter Tryz.func93,Tryz.ntmps93
 go_wp2_with fail
 refine (ej_ _ _ _ _ _ H.out).mono ?_
 rintro e w' ⟨m,rfl,Hm,hmn,HT,rfl⟩
 by_cases h0:m=0
 ·have Hv:=hd_ (dg_nil_iff.1 (Hm.out.symm.trans h0))
  subst h0
  go_wp2
  go_ret
  exact⟨fp_ (decide_eq_true Hv.out).symm,Below.refl _ _⟩
 ·have Hv:=hd_ (fun h=>h0 (Hm.out.trans (dg_nil_iff.2 h)))
  have hmb:((m:Int) == 0)=false:=by simp[h0]
  clear h0
  go_wp2
  go_ret
  exact⟨fp_ (decide_eq_false Hv.out).symm,Below.refl _ _⟩
theorem nat_of(x:Nat)(w:World)(hx:x≤18446744073709551615):Calls Tryz.prog 97 #[.int .u64 (x:Int)] w (Lst (dg x) w):=by
 have Hv:Hid (val [x % 4294967296,x / 4294967296]=x):=hd_ (by simp only[val];omega)
 have Hlit:=hd_ (Wd.lit2 w 81 (x:=x % 4294967296) (y:=x / 4294967296) (by omega) (by omega))
 go_enter Tryz.func97,Tryz.ntmps97
 go_wp2_with fail
 refine (ej_ _ _ _ _ _ Hlit.out).mono ?_
 rintro e w' ⟨m,rfl,Hm,hmn,HT,rfl⟩
 rw[Hv.out] at HT
 go_wp2
 go_ret
 exact⟨_,_,_,rfl,HT.out,aa_ _ _⟩
def NormPost (l:List Nat) (w:World) (e:Ending) (w':World):Prop:=
 ∃g m:Nat,e=.returned (.slice (some ⟨g,0,none⟩) m m)∧Hid (m=(dg (val l)).length)∧Hid (w'.ownsRow w.heap.size 81 1 (.slice (some ⟨g,0,none⟩) m m) m (cf_ (dg (val l))))∧Below w.heap.size w w'
theorem li_(a:OA_)(n cap:Nat)(l:List Nat)(w:World)(h:Wd w a n cap l)(hn:n≤17592183947264) :
 Calls Tryz.prog 133 #[.slice a n cap] w (NormPost l w):=by
 obtain⟨i0,hi,hz0,hz1,hz2⟩:=info_parts g9_
 obtain⟨hb1,hb2⟩:=h.bound
 have H:=hd_ h
 clear h
 go_enter Tryz.func133,Tryz.ntmps133
 go_wp2_with fail
 refine (ej_ _ _ _ _ _ H.out).mono ?_
 rintro e w' ⟨m,rfl,Hm,hmn,HT,rfl⟩
 go_wp2_with (first
  | (at_make;refine wpList_make_full _ rfl _ _ 25 rfl w.heap.size 81 i0 (.int .u32 0) 1 Tryz.underlying25 hi hz0 hz1 .i64 .i64 _ _ m rfl rfl (by omega) (by omega) (by rw[hz2];omega) (by unfold maxLen;omega) (Nat.le_refl _) ?_;intro w1 hown1 hgrow1;rw[f5_] at hown1;have Hg:=hd_ (own_heap hown1);have hB1:Below w.heap.size w w1:=(Below.refl _ _).grown hgrow1 (Nat.le_refl _) (fun k hk=>by cases hk);clear hown1 hgrow1)
  | (refine wpList_copy_splice (o:=⟨some 11,_,_,_,_,_⟩) rfl (.tmp 9) (.tmp 10) 25 25 rfl 81 Tryz.underlying25 (by rw[hi];simp[hz1]) (some ⟨w.heap.size,0,none⟩) a m m m cap (by rfl) (by rfl) w.heap.size 0 (cf_ (List.replicate m 0)) 81 Hg.out (cf_ (dg (val l))) (by rw[b0_,←Hm.out];simp) (fun h=>⟨rfl,HT.out.some_cells (HT.out.later hB1) (by rw[b0_,←Hm.out] at h;exact h)⟩) (by rw[b0_,b0_,←Hm.out];simp) (d3_ _) w.heap.size w hB1 (Nat.le_refl _) ?_;intro w2 hg2 hb2))
 go_ret
 refine ⟨w.heap.size,m,rfl,Hm,?_,hb2⟩
 have hg:=hg2.out
 rw[v5_ (by rw[b0_,b0_,←Hm.out];simp)] at hg
 exact hd_ (v4_ hg (Nat.le_refl _) (by rw[b0_];exact Hm.out.symm) (by unfold maxLen;omega))
theorem or_low{hi lo:Int}(h0:0≤hi)(h:hi≤4294967295)(hl0:0≤lo)(hl:lo≤4294967295):bits .or .u64 lo (hi * 4294967296)=lo+hi * 4294967296:=by
 have e:=lj_ h0 h hl0 hl
 have c:bits .or .u64 lo (hi * 4294967296)=bits .or .u64 (hi * 4294967296) lo:=by
  show IntKind.u64.wrap ((BitVec.ofInt 64 lo ||| BitVec.ofInt 64 (hi * 4294967296)).toNat:Int)=IntKind.u64.wrap ((BitVec.ofInt 64 (hi * 4294967296) ||| BitVec.ofInt 64 lo).toNat:Int)
  rw[BitVec.or_comm]
 rw[c,e,Int.add_comm]
theorem or_none{x:Int}(h0:0≤x)(h:x≤4294967295):bits .or .u64 0 x=x:=by
 have e:=lj_ (hi:=0) (lo:=x) (by omega) (by omega) h0 h
 simpa using e
theorem nat_cmp(a:OA_)(n cap:Nat)(la:List Nat)(b:OA_)(m cap':Nat)(lb:List Nat)(w:World)(ha:Wd w a n cap la)(hb:Wd w b m cap' lb) :
 Calls Tryz.prog 150 #[.slice a n cap,.slice b m cap'] w (bf_ (.int .i64 (cmpI (val la) (val lb))) w):=by
 obtain⟨hb1,hb2⟩:=ha.bound
 obtain⟨hb3,hb4⟩:=hb.bound
 have Ha:=hd_ ha
 have Hb:=hd_ hb
 clear ha hb
 go_enter Tryz.func150,Tryz.ntmps150
 go_wp2_with fail
 refine (ej_ _ _ _ _ _ Ha.out).mono ?_
 rintro e w' ⟨p,rfl,Hp,hp,HA,rfl⟩
 go_wp2_with fail
 refine (ej_ _ _ _ _ _ Hb.out).mono ?_
 rintro e w' ⟨q,rfl,Hq,hq,HB,rfl⟩
 by_cases hpq:p=q
 ·have Hpq:=hd_ hpq
  subst hpq
  go_wp2
  go_loopw [5] (fun i wr=>∃k r:Nat,k≤p∧i=.int .i64 ((k:Int) - 1)∧wr=w.drewN r∧Hid (top (dg (val la)) k=top (dg (val lb)) k)) (fun i _=>(intOf i+1).toNat)
  case atStart=>exact⟨p,0,by omega,by go_num,rfl,hd_ (by rw[fl_ (by rw[←Hp.out];omega),fl_ (by rw[←Hq.out];omega)])⟩
  case round=>
   obtain⟨k,r,hk,rfl,rfl,Ht⟩:=hrel
   cases k with
   | zero=>
     have hv:val la=val lb:=by have:=Ht.out;rw[ek_,ek_,a3_,a3_] at this;exact this
     have Hfin:=hd_ (pd_ hv)
     clear hv
     go_wp2
     go_ret
     exact⟨d7_ Hfin.out.symm,ec_ _ _⟩
   | succ k=>
     have e1:((k+1:Nat):Int) - 1=(k:Int):=by omega
     rw[e1]
     clear e1
     obtain⟨ba,oa,rfl,hca⟩:=HA.out.at (by omega)
     obtain⟨bb,ob,rfl,hcb⟩:=HB.out.at (by omega)
     have hcak:=hca k (by omega)
     have hcbk:=hcb k (by omega)
     clear hca hcb
     have hxa:=bi_ (cz_ (val la)) k
     have hxb:=bi_ (cz_ (val lb)) k
     obtain⟨x,hx⟩:∃x,x=atw (dg (val la)) k:=⟨_,rfl⟩
     obtain⟨y,hy⟩:∃y,y=atw (dg (val lb)) k:=⟨_,rfl⟩
     rw[←hx] at hxa hcak
     rw[←hy] at hxb hcbk
     have Hx:=hd_ hx
     have Hy:=hd_ hy
     clear hx hy
     rcases Nat.lt_trichotomy x y with hxy | hxy | hxy
     ·have h1:((x:Int) != (y:Int))=true:=by simp;omega
      have h2:decide (x < y)=true:=by simp;omega
      have Hfin:=hd_ (fv_ (nr_ (cz_ _) Ht.out (by rw[←Hx.out,←Hy.out];exact hxy)))
      rw[a3_,a3_] at Hfin
      clear hxy
      go_wp2
      go_quiet (fail)
      go_wp2
      go_quiet ((go_at_call 161;exact im_ (kt_ _) ⟨_,rfl⟩))
      go_wp2
      go_ret
      exact⟨d7_ Hfin.out.symm,by simp only[World.drewN_drewN];exact ec_ _ _⟩
     ·have h1:((x:Int) != (y:Int))=false:=by simp;omega
      have Hxy:=hd_ hxy
      clear hxy
      go_wp2
      go_quiet (fail)
      go_wp2
      go_roundw
      case rel=>exact⟨k,_,by omega,by go_num,rfl,hd_ (top_eq Ht.out (by rw[←Hx.out,←Hy.out];exact Hxy.out))⟩
      case measure=>simp[intOf]
     ·have h1:((x:Int) != (y:Int))=true:=by simp;omega
      have h2:decide (x < y)=false:=by simp;omega
      have Hfin:=hd_ (j7_ (nr_ (cz_ _) Ht.out.symm (by rw[←Hx.out,←Hy.out];exact hxy)))
      rw[a3_,a3_] at Hfin
      clear hxy
      go_wp2
      go_quiet (fail)
      go_wp2
      go_quiet ((go_at_call 161;exact im_ (m3_ _) ⟨_,rfl⟩))
      go_wp2
      go_ret
      exact⟨d7_ Hfin.out.symm,by simp only[World.drewN_drewN];exact ec_ _ _⟩
 ·have h1:((p:Int) != (q:Int))=true:=by simp;omega
  by_cases hlt:p < q
  ·have h2:decide (p < q)=true:=by simp;omega
   have Hfin:=hd_ (fv_ (hv_ (a:=val la) (b:=val lb) (by rw[←Hp.out,←Hq.out];exact hlt)))
   clear hpq hlt
   go_wp2_with fail
   refine (kt_ _).mono ?_
   rintro e w' ⟨rfl,rfl⟩
   go_wp2
   go_ret
   exact⟨d7_ Hfin.out.symm,Below.refl _ _⟩
  ·have h2:decide (p < q)=false:=by simp;omega
   have Hfin:=hd_ (j7_ (hv_ (a:=val lb) (b:=val la) (by rw[←Hp.out,←Hq.out];omega)))
   clear hpq hlt
   go_wp2_with fail
   refine (m3_ _).mono ?_
   rintro e w' ⟨rfl,rfl⟩
   go_wp2
   go_ret
   exact⟨d7_ Hfin.out.symm,Below.refl _ _⟩
theorem nat_small(a:OA_)(n cap:Nat)(l:List Nat)(w:World)(h:Wd w a n cap l) :
 Calls Tryz.prog 154 #[.slice a n cap] w (bf_ (.tuple #[.int .u64 ((k0_ (val l):Nat):Int),.bool (on_ (val l))]) w):=by
 obtain⟨hb1,hb2⟩:=h.bound
 have H:=hd_ h
 clear h
 go_enter Tryz.func154,Tryz.ntmps154
 go_wp2_with fail
 refine (ej_ _ _ _ _ _ H.out).mono ?_
 rintro e w' ⟨m,rfl,Hm,hmn,HT,rfl⟩
 have Hk:Hid (m≤2↔val l < two64):=hd_ (by rw[Hm.out];exact dg_length_pow (k:=2))
 by_cases hm2:m≤2
 ·have Hv:Hid (val l < two64):=hd_ (Hk.out.1 hm2)
  have Hl:Hid (val l=atw (dg (val l)) 0+4294967296 * atw (dg (val l)) 1):=hd_ (by have:=tc_ (l:=dg (val l)) (by rw[←Hm.out];exact hm2);rwa [a3_] at this)
  have hx0:=bi_ (cz_ (val l)) 0
  have hx1:=bi_ (cz_ (val l)) 1
  have h1n:Hid (m≤1→atw (dg (val l)) 1=0):=hd_ fun h=>it_ (by rw[←Hm.out];exact h)
  have h0n:Hid (m≤0→atw (dg (val l)) 0=0):=hd_ fun h=>it_ (by rw[←Hm.out];exact h)
  obtain⟨x,hx⟩:∃x,x=atw (dg (val l)) 0:=⟨_,rfl⟩
  obtain⟨y,hy⟩:∃y,y=atw (dg (val l)) 1:=⟨_,rfl⟩
  have hc0:0 < m→∃b off,a=some ⟨b,off,none⟩∧w.cell? ⟨b,off,none⟩=some (.int .u32 (x:Int)):=fun h=>by
   obtain⟨b,off,e,hc⟩:=HT.out.at h
   exact⟨b,off,e,by rw[hx];exact hc 0 h⟩
  have hc1:1 < m→∃b off,a=some ⟨b,off,none⟩∧w.cell? ⟨b,off+1,none⟩=some (.int .u32 (y:Int)):=fun h=>by
   obtain⟨b,off,e,hc⟩:=HT.out.at (by omega)
   exact⟨b,off,e,by rw[hy];exact hc 1 h⟩
  have Hc0:=hd_ hc0
  have Hc1:=hd_ hc1
  rw[←hx] at Hl hx0 h0n
  rw[←hy] at Hl hx1 h1n
  clear hx hy hc0 hc1
  have Hfin:Hid (k0_ (val l)=x+4294967296 * y∧on_ (val l)=true):=hd_ ⟨by unfold k0_;rw[if_pos Hv.out];exact Hl.out,decide_eq_true Hv.out⟩
  have Ho1:Hid (bits .or .u64 0 (x:Int)=(x:Int)):=hd_ (or_none (by omega) (by omega))
  have Ho2:Hid (bits .or .u64 (x:Int) ((y:Int) * 4294967296)=(x:Int)+(y:Int) * 4294967296):=hd_ (or_low (by omega) (by omega) (by omega) (by omega))
  go_wp2
  go_loop [4,14] (fun nn ix=>(ix=.int .i64 0∧nn=.int .u64 0)∨(ix=.int .i64 1∧1≤m∧nn=.int .u64 (x:Int))∨(ix=.int .i64 2∧2≤m∧nn=.int .u64 ((x:Int)+(y:Int) * 4294967296))) (fun _ ix=>2 - (intOf ix).toNat)
  case atStart=>exact .inl ⟨rfl,rfl⟩
  case round=>
   rcases hrel with ⟨rfl,rfl⟩ | ⟨rfl,hr,rfl⟩ | ⟨rfl,hr,rfl⟩
   ·by_cases h0:0 < m
    ·obtain⟨b,off,rfl,hck⟩:=Hc0.out h0
     have ho1:=Ho1.out
     go_wp2
     go_round
     case rel=>exact .inr (.inl ⟨rfl,h0,rfl⟩)
     case measure=>simp[intOf]
    ·have hm0:m=0:=by omega
     have hfin:=Hfin.out
     rw[h0n.out (by omega),h1n.out (by omega)] at hfin
     have Hfin2:=hd_ hfin
     clear hfin Hfin
     subst hm0
     go_wp2
     go_ret2
     rw[Hfin2.out.1,Hfin2.out.2]
     exact⟨rfl,Below.refl _ _⟩
   ·by_cases h0:1 < m
    ·obtain⟨b,off,rfl,hck⟩:=Hc1.out h0
     have ho2:=Ho2.out
     go_wp2
     go_round
     case rel=>exact .inr (.inr ⟨rfl,h0,rfl⟩)
     case measure=>simp[intOf]
    ·have hm0:m=1:=by omega
     have hfin:=Hfin.out
     rw[h1n.out (by omega)] at hfin
     have Hfin2:=hd_ hfin
     clear hfin Hfin
     subst hm0
     go_wp2
     go_ret2
     rw[Hfin2.out.1,Hfin2.out.2]
     exact⟨rfl,Below.refl _ _⟩
   ·have hm0:m=2:=by omega
    subst hm0
    go_wp2
    go_ret2
    rw[Hfin.out.1,Hfin.out.2]
    exact⟨by simp;omega,Below.refl _ _⟩
 ·have Hfin:Hid (k0_ (val l)=0∧on_ (val l)=false):=hd_ ⟨by unfold k0_;rw[if_neg (fun h=>hm2 (Hk.out.2 h))],decide_eq_false (fun h=>hm2 (Hk.out.2 h))⟩
  have hm3:(2:Int) < (m:Int):=by omega
  clear hm2
  go_wp2
  go_ret2
  rw[Hfin.out.1,Hfin.out.2]
  exact⟨rfl,Below.refl _ _⟩
def Own (w:World) (base g n cap:Nat) (l:List Nat):Prop:=w.ownsRow base 81 1 (.slice (some ⟨g,0,none⟩) n cap) n (cf_ l)∧okw l
theorem Own.wd{w:World}{base g n cap:Nat}{l:List Nat}(h:Own w base g n cap l):Wd w (some ⟨g,0,none⟩) n cap l:=Wd.own h.1 h.2
theorem Own.len{w:World}{base g n cap:Nat}{l:List Nat}(h:Own w base g n cap l):l.length=n:=h.wd.len
theorem Own.base{w:World}{base g n cap:Nat}{l:List Nat}(h:Own w base g n cap l):base≤g∧g < w.heap.size:=h.1.lt g rfl
theorem Own.cell{w:World}{base g n cap:Nat}{l:List Nat}(h:Own w base g n cap l){k:Nat}(hk:k < n):w.cell? ⟨g,k,none⟩=some (.int .u32 ((atw l k:Nat):Int)):=
 (h.1.cellAt k (by omega)).trans (f7_ (by rw[h.len];exact hk))
theorem Own.set{w:World}{base g n cap:Nat}{l:List Nat}(h:Own w base g n cap l)(k r:Nat)(hr:r < 4294967296):Own (w.setCell ⟨g,k,none⟩ (.int .u32 ((r:Nat):Int))) base g n cap (l.set k r):=by
 refine ⟨?_,fun x hx=>?_⟩
 ·rw[←e3_];exact (h.1.stored k _).1
 ·rcases List.mem_or_eq_of_mem_set hx with h1 | h1
  ·exact h.2 x h1
  ·omega
theorem Own.push{w':World}{base:Nat}{v':Value}{n:Nat}{l:List Nat}{r:Nat}(h:w'.ownsRow base 81 1 v' (n+1) (cf_ l ++ [.int .u32 ((r:Nat):Int)]))(ho:okw l)(hr:r < 4294967296):∃g cap,v'=.slice (some ⟨g,0,none⟩) (n+1) cap∧Own w' base g (n+1) cap (l ++ [r]):=by
 have e:cf_ l ++ [Value.int .u32 ((r:Nat):Int)]=cf_ (l ++ [r]):=by simp[cf_]
 rw[e] at h
 rcases h.2 with ⟨_,h0⟩ | ⟨g,cap,cur,rfl,h3⟩
 ·omega
 ·exact⟨g,cap,rfl,h,gk_ ho hr⟩
theorem h5_(x y c:Nat)(w:World)(hx:x < 4294967296)(hy:y < 4294967296)(hc:c≤1):Calls Tryz.prog 168 #[.int .u32 (x:Int),.int .u32 (y:Int),.int .u32 (c:Int)] w fun e w'=>
 ∃r z:Nat,e=.returned (.tuple #[.int .u32 (r:Int),.int .u32 (z:Int)])∧z≤1∧r < 4294967296∧Hid (r+4294967296 * z=c+(x+y))∧w=w':=
 (limb_add x y c w (by omega) (by omega) (by omega) (by omega) (by omega) (by omega)).mono fun e w' ⟨he,hw⟩=>⟨(x+y+c) % 4294967296,(x+y+c) / 4294967296,by rw[he];rfl,by omega,by omega,hd_ (by omega),hw⟩
theorem jv_(x c:Nat)(w:World)(hx:x < 4294967296)(hc:c≤1):Calls Tryz.prog 168 #[.int .u32 (x:Int),.int .u32 0,.int .u32 (c:Int)] w fun e w'=>
 ∃r z:Nat,e=.returned (.tuple #[.int .u32 (r:Int),.int .u32 (z:Int)])∧z≤1∧r < 4294967296∧Hid (r+4294967296 * z=c+(x+0))∧w=w':=
 h5_ x 0 c w hx (by omega) hc
theorem ge_(x y c:Nat)(w:World)(hx:x < 4294967296)(hy:y < 4294967296)(hc:c≤1):Calls Tryz.prog 169 #[.int .u32 (x:Int),.int .u32 (y:Int),.int .u32 (c:Int)] w fun e w'=>
 ∃r z:Nat,e=.returned (.tuple #[.int .u32 (r:Int),.int .u32 (z:Int)])∧z≤1∧r < 4294967296∧Hid (x+4294967296 * z=y+c+r)∧w=w':=
 (limb_sub x y c w (by omega) (by omega) (by omega) (by omega) (by omega) (by omega)).mono fun e w' ⟨he,hw⟩=>by
   by_cases h:x < y+c
   ·refine ⟨x+4294967296 - (y+c),1,?_,by omega,by omega,hd_ (by omega),hw⟩
    have e1:((x:Int) - y - c) % 4294967296=((x+4294967296 - (y+c):Nat):Int):=by omega
    have e2 : -(((x:Int) - y - c) / 4294967296)=((1:Nat):Int):=by omega
    rw[he,e1,e2]
   ·refine ⟨x - (y+c),0,?_,by omega,by omega,hd_ (by omega),hw⟩
    have e1:((x:Int) - y - c) % 4294967296=((x - (y+c):Nat):Int):=by omega
    have e2 : -(((x:Int) - y - c) / 4294967296)=((0:Nat):Int):=by omega
    rw[he,e1,e2]
theorem pq_(x c:Nat)(w:World)(hx:x < 4294967296)(hc:c≤1):Calls Tryz.prog 169 #[.int .u32 (x:Int),.int .u32 0,.int .u32 (c:Int)] w fun e w'=>
 ∃r z:Nat,e=.returned (.tuple #[.int .u32 (r:Int),.int .u32 (z:Int)])∧z≤1∧r < 4294967296∧Hid (x+4294967296 * z=0+c+r)∧w=w':=
 ge_ x 0 c w hx (by omega) hc
def st_ (ls:List (List Nat)) (w:World) (e:Ending) (w':World):Prop:=∃N:Nat,e=.returned (.int .i64 (N:Int))∧N≤ei_ ls∧w=w'
theorem s8_(a:OA_)(n cap:Nat)(ls:List (List Nat))(w:World)(h:Wds w a n cap ls)(hw:ei_ ls≤1048576000000) :
 Calls Tryz.prog 155 #[.slice a n cap] w (st_ ls w):=by
 obtain⟨hb1,hb2⟩:=h.bound
 have H:=hd_ h
 clear h
 go_enter Tryz.func155,Tryz.ntmps155
 go_wp2
 go_loop [3,8] (fun u i=>∃k N:Nat,k≤n∧i=.int .i64 k∧u=.int .i64 N∧N≤ei_ ls) (fun _ i=>n - (intOf i).toNat)
 case atStart=>exact⟨0,0,by omega,rfl,rfl,by omega⟩
 case round=>
  obtain⟨k,N,hk,rfl,rfl,hN⟩:=hrel
  by_cases hlt:k < n
  ·obtain⟨b,off,rfl,a',n',c',hc,hwd⟩:=H.out.at hlt
   have hn':n'≤ei_ ls:=by rw[←hwd.len];exact q3_ _ _ (by rw[H.out.len];exact hlt)
   have HW:=hd_ hwd
   clear hwd
   have hk1:(k:Int) < (n:Int):=by omega
   go_wp2_with fail
   refine (ej_ _ _ _ _ _ HW.out).mono ?_
   rintro e w' ⟨m,rfl,Hm,hmn,HT,rfl⟩
   by_cases hNm:N≤m
   ·have hNi:(N:Int)≤(m:Int):=by omega
    go_wp2
    go_round
    case rel=>exact⟨k+1,m,by omega,by go_num,by first | rfl | (congr 1;omega) | (simp;omega),by omega⟩
    case measure=>simp[intOf];omega
   ·have hNi:(m:Int) < (N:Int):=by omega
    go_wp2
    go_round
    case rel=>exact⟨k+1,N,by omega,by go_num,by first | rfl | (congr 1;omega) | (simp;omega),by omega⟩
    case measure=>simp[intOf];omega
  ·go_wp2
   go_ret
   exact⟨N,rfl,hN,rfl⟩
theorem e8_(w:World)(row:Option Nat):w.grownBy w row:=⟨rfl,rfl,rfl,Nat.le_refl _,fun _ _ _=>rfl⟩
theorem cs_{a b c:World}{row:Option Nat}(h:a.grownBy b row)(k:b.grownBy c row):a.grownBy c row:=
 ⟨k.os.trans h.os,k.tape.trans h.tape,k.output.trans h.output,Nat.le_trans h.size k.size,fun i hi hr=>(k.block i (Nat.lt_of_lt_of_le hi h.size) hr).trans (h.block i hi hr)⟩
theorem ce_(w:World)(g k:Nat)(u:Value):w.grownBy (w.setCell ⟨g,k,none⟩ u) (some g):=
 ⟨rfl,rfl,rfl,by simp[World.setCell],fun i _ hr=>Below.heap_setCell _ _ _ _ (fun e=>hr (by rw[e]))⟩
theorem sz_{a w:World}{row:Option Nat}(h:a.grownBy w row)(n:Nat):a.grownBy (w.drewN n) row:=cs_ h ⟨rfl,rfl,rfl,Nat.le_refl _,fun _ _ _=>rfl⟩
theorem cp_{w0 w w':World}{g:Nat}(hB:Below w0.heap.size w0 w)(hg:w.grownBy w' (some g))(hb:w0.heap.size≤g):Below w0.heap.size w0 w':=
 hB.grown hg hB.size (fun k hk=>by cases hk;exact hb)
theorem Own.later{w w':World}{base g n cap:Nat}{l:List Nat}(h:Own w base g n cap l)(hb:Below w.heap.size w w'):Own w' base g n cap l:=by
 refine ⟨⟨h.1.1,?_⟩,h.2⟩
 rcases h.1.2 with h0 | ⟨g',cap',cur,h1,h2,h3,h4⟩
 ·exact .inl h0
 ·exact .inr ⟨g',cap',cur,h1,h2,(hb.block g' (Array.getElem?_eq_some_iff.1 h3).1).trans h3,h4⟩
theorem Own.l_ {w w':World}{x0 x1 x2 x3 x4}(h:Own w x0 x1 x2 x3 x4)(b:Below w.heap.size w w'):Hid (Own w' x0 x1 x2 x3 x4):=Lib.hid (h.later b)
theorem Own.other{w w':World}{base g g' n cap:Nat}{l:List Nat}(h:Own w base g n cap l)(hg:w.grownBy w' (some g'))(hne:g≠g'):Own w' base g n cap l:=
 ⟨h.1.kept hg (.inr (by simp[Value.ownBlock];exact hne)),h.2⟩
theorem Own.stay{w w':World}{base g n cap:Nat}{l:List Nat}(h:Own w base g n cap l)(hg:w.grownBy w' none):Own w' base g n cap l:=
 ⟨h.1.kept hg (.inr (by simp[Value.ownBlock])),h.2⟩
theorem Own.lower{w:World}{base base' g n cap:Nat}{l:List Nat}(h:Own w base g n cap l)(hb:base'≤base):Own w base' g n cap l:=
 ⟨⟨h.1.1,h.1.2.imp id fun ⟨g,cap,cur,h1,h2,h3⟩=>⟨g,cap,cur,h1,Nat.le_trans hb h2,h3⟩⟩,h.2⟩
theorem pj_{w:World}{base base':Nat}{e:TypeId}{size:Nat}{v:Value}{n:Nat}{xs:List Value}(h:w.ownsRow base e size v n xs)(hb:base'≤base):w.ownsRow base' e size v n xs:=
 ⟨h.1,h.2.imp id fun ⟨g,cap,cur,h1,h2,h3⟩=>⟨g,cap,cur,h1,Nat.le_trans hb h2,h3⟩⟩
theorem Own.bound{w:World}{base g n cap:Nat}{l:List Nat}(h:Own w base g n cap l):n≤cap∧cap≤9223372036854775807:=h.wd.bound
def Win (w:World) (base g off n:Nat) (l:List Nat):Prop:=∃(N cap:Nat) (P:List Nat),Own w base g N cap P∧off+n≤N∧l=(P.drop off).take n
theorem Own.win{w:World}{base g n cap:Nat}{l:List Nat}(h:Own w base g n cap l):Win w base g 0 n l:=
 ⟨n,cap,l,h,by omega,by rw[List.drop_zero,List.take_of_length_le (by rw[h.len];exact Nat.le_refl _)]⟩
theorem Win.len{w:World}{base g off n:Nat}{l:List Nat}(h:Win w base g off n l):l.length=n:=by
 obtain⟨N,cap,P,hO,hn,rfl⟩:=h
 have:=hO.len
 rw[List.length_take,List.length_drop]
 omega
theorem Win.ok{w:World}{base g off n:Nat}{l:List Nat}(h:Win w base g off n l):okw l:=by
 obtain⟨N,cap,P,hO,hn,rfl⟩:=h
 exact ik_ (lo_ hO.2 off) n
theorem Win.base{w:World}{base g off n:Nat}{l:List Nat}(h:Win w base g off n l):base≤g∧g < w.heap.size:=by
 obtain⟨N,cap,P,hO,_⟩:=h
 exact hO.base
theorem Win.cell{w:World}{base g off n:Nat}{l:List Nat}(h:Win w base g off n l){k:Nat}(hk:k < n):w.cell? ⟨g,off+k,none⟩=some (.int .u32 ((atw l k:Nat):Int)):=by
 obtain⟨N,cap,P,hO,hn,rfl⟩:=h
 rw[hO.cell (by omega),ih_ hk,fn_]
theorem Win.frozen{w:World}{base g off n:Nat}{l:List Nat}(h:Win w base g off n l)(k:Nat):w.frozen? ⟨g,off+k,none⟩=false:=by
 obtain⟨N,cap,P,hO,_⟩:=h
 exact hO.1.frozenAt _
theorem Win.wd{w:World}{base g off n:Nat}{l:List Nat}(h:Win w base g off n l){c:Nat}(hc:n≤c)(hc2:c≤9223372036854775807):Wd w (some ⟨g,off,none⟩) n c l:=
 ⟨h.len,hc,hc2,h.ok,fun e=>(by cases e),.inr ⟨g,off,rfl,fun _ hj=>h.cell hj⟩⟩
theorem Win.set{w:World}{base g off n:Nat}{l:List Nat}(h:Win w base g off n l){k r:Nat}(hr:r < 4294967296):Win (w.setCell ⟨g,off+k,none⟩ (.int .u32 ((r:Nat):Int))) base g off n (l.set k r):=by
 obtain⟨N,cap,P,hO,hn,rfl⟩:=h
 refine ⟨N,cap,P.set (off+k) r,hO.set _ _ hr,hn,?_⟩
 rw[List.drop_set,if_neg (by omega),List.take_set,Nat.add_sub_cancel_left]
theorem Win.take{w:World}{base g off n:Nat}{l:List Nat}(h:Win w base g off n l){m:Nat}(hm:m≤n):Win w base g off m (l.take m):=by
 obtain⟨N,cap,P,hO,hn,rfl⟩:=h
 exact⟨N,cap,P,hO,by omega,by rw[List.take_take,Nat.min_eq_left hm]⟩
theorem Win.drop{w:World}{base g off q m:Nat}{l:List Nat}(h:Win w base g off (q+m) l):Win w base g (off+q) m (l.drop q):=by
 obtain⟨N,cap,P,hO,hn,rfl⟩:=h
 exact⟨N,cap,P,hO,by omega,by rw[List.drop_take,List.drop_drop,Nat.add_sub_cancel_left]⟩
theorem Win.later{w w':World}{base g off n:Nat}{l:List Nat}(h:Win w base g off n l)(hb:Below w.heap.size w w'):Win w' base g off n l:=by
 obtain⟨N,cap,P,hO,hn,hl⟩:=h
 exact⟨N,cap,P,hO.later hb,hn,hl⟩
theorem Win.l_ {w w':World}{x0 x1 x2 x3 x4}(h:Win w x0 x1 x2 x3 x4)(b:Below w.heap.size w w'):Hid (Win w' x0 x1 x2 x3 x4):=Lib.hid (h.later b)
theorem Win.other{w w':World}{base g g' off n:Nat}{l:List Nat}(h:Win w base g off n l)(hg:w.grownBy w' (some g'))(hne:g≠g'):Win w' base g off n l:=by
 obtain⟨N,cap,P,hO,hn,hl⟩:=h
 exact⟨N,cap,P,hO.other hg hne,hn,hl⟩
theorem Win.lower{w:World}{base base' g off n:Nat}{l:List Nat}(h:Win w base g off n l)(hb:base'≤base):Win w base' g off n l:=by
 obtain⟨N,cap,P,hO,hn,hl⟩:=h
 exact⟨N,cap,P,hO.lower hb,hn,hl⟩
theorem Wd.kept{w w':World}{a:Option Addr}{n cap:Nat}{l:List Nat}{row:Option Nat}(h:Wd w a n cap l)(hg:w.grownBy w' row)(hne:∀ad:Addr,a=some ad→some ad.block≠row):Wd w' a n cap l:=
 ⟨h.1,h.2.1,h.2.2.1,h.2.2.2.1,h.2.2.2.2.1,h.2.2.2.2.2.imp id fun ⟨b,off,e,hc⟩=>⟨b,off,e,fun j hj=>hg.cell (hc j hj) (hne ⟨b,off,none⟩ e)⟩⟩
theorem rt_{w:World}{base:Nat}{a:Option Addr}{n cap:Nat}{l:List Nat}(h:w.ownsRow base 81 1 (.slice a n cap) n (cf_ l))(ho:okw l)(hn:0 < n):∃g,a=some ⟨g,0,none⟩∧Own w base g n cap l:=by
 rcases h.2 with ⟨_,h0⟩ | ⟨g,cap',cur,e,_⟩
 ·omega
 ·simp only[Value.slice.injEq] at e
  obtain⟨rfl,_,rfl⟩:=e
  exact⟨g,rfl,h,ho⟩
theorem p4_{w w':World}{base:Nat}{e:TypeId}{size:Nat}{v:Value}{n:Nat}{xs:List Value}(h:w.ownsRow base e size v n xs)(hb:Below w.heap.size w w'):w'.ownsRow base e size v n xs:=by
 refine ⟨h.1,?_⟩
 rcases h.2 with h0 | ⟨g',cap',cur,h1,h2,h3,h4⟩
 ·exact .inl h0
 ·exact .inr ⟨g',cap',cur,h1,h2,(hb.block g' (Array.getElem?_eq_some_iff.1 h3).1).trans h3,h4⟩
def o5_ (w:World) (a:Addr):Nat:=match w.cell? a with | some (.int _ z)=>z.toNat | _=>0
def kd_ (w:World):Value→Nat
 | .slice (some a) n _=>val ((List.range n).map fun j=>o5_ w ⟨a.block,a.off+j,none⟩)
 | _=>0
theorem Wd.held{w:World}{b off n cap:Nat}{l:List Nat}(h:Wd w (some ⟨b,off,none⟩) n cap l):kd_ w (.slice (some ⟨b,off,none⟩) n cap)=val l:=by
 show val ((List.range n).map fun j=>o5_ w ⟨b,off+j,none⟩)=val l
 apply congrArg val
 apply jz_
 ·simp[h.len]
 ·intro j hj
  simp at hj
  obtain⟨b',off',e,hc⟩:=h.at (by omega)
  simp only[Option.some.injEq,Addr.mk.injEq,and_true] at e
  obtain⟨rfl,rfl⟩:=e
  unfold atw
  rw[List.getD_eq_getElem?_getD,List.getElem?_map,List.getElem?_range hj]
  show o5_ w ⟨b,off+j,none⟩=_
  unfold o5_
  rw[hc j hj]
  show (((atw l j:Nat):Int)).toNat=_
  rw[Int.toNat_natCast];rfl
def rm_:List UInt8→Nat→Int
 | [],_=>-1
 | x :: r,i=>if x.toNat < 48∨57 < x.toNat∨60≤i then (i:Int) else rm_ r (i+1)
def mp_ (l:List UInt8):Int:=if l=[] then 0 else rm_ l 0
def sh_ (l:List UInt8):Nat:=l.foldl (fun n x=>n * 10+(x.toNat - 48)) 0
def Dec10 (w:World):Prop:=w=w
theorem Dec10.later{w w':World}(_:Dec10 w)(_:Below w.heap.size w w'):Dec10 w':=rfl
theorem Dec10.l_ {w w':World}(h:Dec10 w)(b:Below w.heap.size w w'):Hid (Dec10 w'):=Lib.hid (h.later b)
theorem Dec10.all(w:World):Dec10 w:=rfl
structure DigitsSaid:Prop where
def Box (w:World) (g:Nat) (k s t a:Int):Prop:=
 w.cell? ⟨g,0,none⟩=some (.int .i64 k)∧w.cell? ⟨g,1,none⟩=some (.int .i64 s)∧w.cell? ⟨g,2,none⟩=some (.int .i64 t)∧w.cell? ⟨g,3,none⟩=some (.int .i64 a)
theorem Box.later{w w':World}{g:Nat}{k s t a:Int}(h:Box w g k s t a)(hb:Below w.heap.size w w'):Box w' g k s t a:=
 ⟨cell_later hb h.1,cell_later hb h.2.1,cell_later hb h.2.2.1,cell_later hb h.2.2.2⟩
theorem Box.l_ {w w':World}{x0 x1 x2 x3 x4}(h:Box w x0 x1 x2 x3 x4)(b:Below w.heap.size w w'):Hid (Box w' x0 x1 x2 x3 x4):=Lib.hid (h.later b)
theorem Box.new(w:World)(k s t a:Int)(e:TypeId):Box (w.alloc (.cells #[.int .i64 k,.int .i64 s,.int .i64 t,.int .i64 a] e)) w.heap.size k s t a:=⟨by simp,by simp,by simp,by simp⟩
theorem k4_(w:World)(base:Nat)(e:TypeId)(z:Value)(q c:Nat)(hqc:q≤c)(hc:c≤maxLen)(hb:base≤w.heap.size) :
 (w.alloc (.cells (madeCells #[z] c) e)).ownsRow base e 1 (.slice (some ⟨w.heap.size,0,none⟩) q c) q (List.replicate q z):=by
 refine ⟨by simp,.inr ⟨w.heap.size,c,madeCells #[z] c,rfl,hb,heap_alloc_new w _,hqc,hc,?_,?_⟩⟩
 ·have:=congrArg List.length (toList_madeCells_one z c)
  simpa using this
 ·rw[toList_madeCells_one,List.take_replicate,Nat.mul_one,Nat.min_eq_left hqc]
theorem cc_{P:Program}(w:World){ops:Array Oper}{rest:List Oper}{o:Oper}{a:Act}{Q:Exit→Act→World→Prop}
 (hg:o.guard=none) (l c:Operand) (t:TypeId) (hop:o.op=Op.makeSlice t l c)
 (base:Nat) (e:TypeId) (i:TypeInfo) (z:Value) (h1:P.underlying t=some (.slice e)) (h2:P.info? e=some i) (h3:i.zero=some z) (h4:i.size=1) (hz:z.cells=#[z])
 (kl kc:IntKind) (L C:Int) (n m:Nat) (hl:a.eval l=.int kl L) (hc:a.eval c=.int kc C) (hL:L=(n:Int)) (hC:C=(m:Int)) (hnm:n≤m) (b2:i.bytes * m≤281474976710656) (b3:m≤maxLen) (b4:base≤w.heap.size)
 (hK:∀w',w'.ownsRow base e 1 (.slice (some ⟨w.heap.size,0,none⟩) n m) n (List.replicate n z)→w.grownBy w' none→wpList P ops Q rest (a.put o.dst (.slice (some ⟨w.heap.size,0,none⟩) n m)) w') :
 wpList P ops Q (o :: rest) a w:=by
 refine wpList_plain hg fun K hK'=>?_
 have h63':(m:Int)≤9223372036854775807:=by
  have h:=b3
  simp[maxLen] at h
  omega
 have hb':(i.bytes:Int) * (m:Int)≤281474976710656:=by
  have h:((i.bytes * m:Nat):Int)≤281474976710656:=by omega
  rwa [Int.natCast_mul] at h
 have hrun:=run_make (P:=P) w t e i z h1 h2 h3 kl kc n m (by omega) (by omega) hb' h63'
 simp only[Int.toNat_natCast,h4,Nat.mul_one,hz] at hrun
 subst hL
 subst hC
 unfold Oper.wp
 simp[execOp,hop,hl,hc,hrun,Result.andThen]
 exact hK' _ _ (hK _ (k4_ w base e z n m hnm b3 b4) (World.grownBy_alloc w _ none))
theorem dy_(n:Nat):List.replicate n (Value.int .u32 0)=cf_ (List.replicate n 0):=by simp[cf_]
theorem Own.drewN{w:World}{base g n cap:Nat}{l:List Nat}(h:Own w base g n cap l)(q:Nat):Own (w.drewN q) base g n cap l:=h
theorem Own.drew{w:World}{base g n cap:Nat}{l:List Nat}(h:Own w base g n cap l):Own w.drew base g n cap l:=h
theorem fh_(a:OA_)(n cap:Nat)(la:List Nat)(b:OA_)(m cap':Nat)(lb:List Nat)(w:World)(ha:Wd w a n cap la)(hb:Wd w b m cap' lb)(hn:n≤4194304000000)(hm:m≤4194304000000) :
 Calls Tryz.prog 99 #[.slice a n cap,.slice b m cap'] w (Lst (dg (val la * val lb)) w):=by
 obtain⟨i0,hi,hz0,hz1,hz2⟩:=info_parts g9_
 have Ha:=hd_ ha
 have Hb:=hd_ hb
 clear ha hb
 obtain⟨N,hN⟩:∃N:Nat,(n:Int)+(m:Int)=(N:Int):=⟨n+m,by omega⟩
 have HN:Hid (N=n+m):=hd_ (by omega)
 have hNb:N≤8388608000000:=by omega
 go_enter Tryz.func99,Tryz.ntmps99
 go_wp2_with (at_make;refine cc_ _ rfl _ _ 25 rfl w.heap.size 81 i0 (.int .u32 0) Tryz.underlying25 hi hz0 hz1 rfl .i64 .i64 _ _ N N rfl rfl rfl rfl (Nat.le_refl _) (by rw[hz2];omega) (by unfold maxLen;omega) (Nat.le_refl _) ?_;intro w1 hown1 hgrow1)
 rw[dy_] at hown1
 have HO1:Hid (Own w1 w.heap.size w.heap.size N N (List.replicate N 0)):=hd_ ⟨hown1,ff_ N⟩
 have hB1:Below w.heap.size w w1:=(Below.refl _ _).grown hgrow1 (Nat.le_refl _) (fun k hk=>by cases hk)
 clear hown1 hgrow1
 go_loopw [6] (fun iv wr=>∃(i:Nat) (P:List Nat),i≤n∧iv=.int .i64 (i:Int)∧Hid (v3_ la lb P m i)∧Hid (Own wr w.heap.size w.heap.size N N P)∧Below w.heap.size w wr) (fun iv _=>n - (intOf iv).toNat)
 case atStart=>exact⟨0,List.replicate N 0,by omega,rfl,hd_ (qq_ _ _ _ _),HO1,hB1⟩
 case round=>
  clear HO1 hB1
  obtain⟨i,P,hin,rfl,HR,HO,hB⟩:=hrel
  by_cases hlt:i < n
  ·have hii:(i:Int) < (n:Int):=by omega
   obtain⟨ba,oa,rfl,hca⟩:=(Ha.out.later hB).at (by omega)
   have Hblk:Hid (ba < w.heap.size∧∀wz,Below w.heap.size w wz→wz.cell? ⟨ba,oa+i,none⟩=some (.int .u32 ((atw la i:Nat):Int))):=by
    obtain⟨ba2,oa2,e2,hca2⟩:=Ha.out.at (by omega)
    simp only[Option.some.injEq,Addr.mk.injEq,and_true] at e2
    obtain⟨rfl,rfl⟩:=e2
    exact hd_ ⟨World.block_lt_of_cell? w _ (hca2 i hlt),fun wz hz=>cell_later hz (hca2 i hlt)⟩
   have hxw:=bi_ Ha.out.ok i
   obtain⟨x,hxx⟩:∃x,x=atw la i:=⟨_,rfl⟩
   rw[←hxx] at hxw Hblk
   have Hx:=hd_ hxx
   clear hca hxx
   go_wp2
   go_loopw [7,8] (fun sv jv wr=>∃(j c:Nat) (P:List Nat),j≤m∧jv=.int .i64 (j:Int)∧sv=.int .u64 (c:Int)∧c < 4294967296∧Hid (n8_ la lb P m i j c)∧Hid (Own wr w.heap.size w.heap.size N N P)∧Below w.heap.size w wr) (fun _ jv _=>m - (intOf jv).toNat)
   case atStart=>exact⟨0,0,P,by omega,rfl,rfl,by omega,hd_ (oe_ HR.out),HO,hB⟩
   case round=>
    clear HO hB HR
    obtain⟨j,c,P,hjm,rfl,rfl,hc,HC,HO,hB⟩:=hrel
    by_cases hjl:j < m
    ·have hji:(j:Int) < (m:Int):=by omega
     obtain⟨bb,ob,rfl,hcb⟩:=(Hb.out.later hB).at (by omega)
     have hcbj:=hcb j hjl
     have hcai:=Hblk.out.2 wr hB
     have hyw:=bi_ Hb.out.ok j
     obtain⟨y,hyy⟩:∃y,y=atw lb j:=⟨_,rfl⟩
     rw[←hyy] at hyw hcbj
     have Hy:=hd_ hyy
     obtain⟨q,hq⟩:∃q:Nat,(i:Int)+(j:Int)=(q:Int):=⟨i+j,by omega⟩
     have Hq:Hid (q=i+j):=hd_ (by omega)
     have hqN:q < N:=by have:=HN.out;omega
     have hqi:(q:Int) < (N:Int):=by omega
     have hcell:=HO.out.cell (k:=q) hqN
     have hfro:=HO.out.1.frozenAt q
     have huw:=bi_ HO.out.2 q
     obtain⟨u,huu⟩:∃u,u=atw P q:=⟨_,rfl⟩
     rw[←huu] at huw hcell
     have Hu:=hd_ huu
     have hroom:=mul_room hxw hyw huw hc
     obtain⟨p,hp⟩:∃p:Nat,(x:Int) * (y:Int)=(p:Int):=⟨x * y,by simp⟩
     have Hp:Hid (p=x * y):=hd_ (by rw[←Int.natCast_mul] at hp;omega)
     rw[←Hp.out] at hroom
     obtain⟨hroom1,hroom2⟩:=hroom
     have hb:=HO.out.base
     clear hcb hyy huu
     go_wp2
     go_quiet (fail)
     go_wp2
     go_roundw
     case rel=>
      have HOs:=(HO.out.drewN nq).set q ((c+(p+u)) % 4294967296) (Nat.mod_lt _ (by decide))
      have hBs:=(below_drewN hB nq).setCell (p:=⟨w.heap.size,q,none⟩) hb.1 (.int .u32 (((c+(p+u)) % 4294967296:Nat):Int))
      have e1:(((c+(p+u)) % 4294967296:Nat):Int)=((c:Int)+((p:Int)+(u:Int))) % 4294967296:=by omega
      rw[e1] at HOs hBs
      exact⟨j+1,(c+(p+u)) / 4294967296,P.set q ((c+(p+u)) % 4294967296),by omega,by go_num,by go_num,by omega,hd_ (by
       have h1:=HC.out
       have h2:=HN.out
       have h3:=HO.out.len
       obtain rfl:=Hq.out
       exact qv_ h1 hjl (by omega) (by rw[←Hx.out,←Hy.out,←Hu.out,←Hp.out];omega)),hd_ HOs,hBs⟩
     case measure=>simp[intOf];omega
    ·obtain rfl:j=m:=by omega
     obtain⟨q,hq⟩:∃q:Nat,(i:Int)+(j:Int)=(q:Int):=⟨i+j,by omega⟩
     have Hq:Hid (q=i+j):=hd_ (by omega)
     have hqN:q < N:=by have:=HN.out;omega
     have hqi:(q:Int) < (N:Int):=by omega
     have hcell:=HO.out.cell (k:=q) hqN
     have hfro:=HO.out.1.frozenAt q
     generalize atw P q=u at hcell
     have hb:=HO.out.base
     have HOs:=HO.out.set q c hc
     have hBs:=hB.setCell (p:=⟨w.heap.size,q,none⟩) hb.1 (.int .u32 (c:Int))
     have HOs':=hd_ HOs
     have hBs':=hd_ hBs
     clear HOs hBs
     go_wp2
     go_roundw
     case rel=>
      exact⟨i+1,P.set q c,by omega,by go_num,hd_ (by
       have h1:=HC.out
       have h2:=HN.out
       have h3:=HO.out.len
       obtain rfl:=Hq.out
       exact uo_ h1 Hb.out.len (by omega)),HOs',hBs'.out⟩
     case measure=>simp[intOf];omega
  ·obtain rfl:i=n:=by omega
   have Hv:=hd_ (row_end HR.out Ha.out.len)
   go_wp2_with fail
   refine (du_ _ _ _ _ _ HO.out.wd (by omega)).mono ?_
   rintro e w' ⟨a',n',c',rfl,hwd,hbel⟩
   rw[Hv.out] at hwd
   have HWD:=hd_ hwd
   clear hwd
   go_wp2
   go_ret
   exact⟨_,_,_,rfl,HWD.out,ab_ hB hbel⟩

theorem sgn_neg{z:Int}(h:z < 0):sgn z = -1:=by unfold sgn;rw[if_neg (by omega),if_pos h]
def f6_ (z:Int):Prop:=-9223372036854775808≤z∧z≤9223372036854775807
instance (z:Int):Decidable (f6_ z):=by unfold f6_;infer_instance
def tk_:List UInt8→Int
 | [] => 0
 | x :: r=>if x.toNat=45 then (if mp_ r < 0 then -1 else 1+mp_ r) else mp_ (x :: r)
def zread:List UInt8→Int
 | [] => 0
 | x :: r=>if x.toNat=45 then zval true (sh_ r) else zval false (sh_ (x :: r))
theorem kl_(v:Nat):zval false v=(v:Int):=rfl
theorem qm_(v:Nat):zval true v = -(v:Int):=rfl
theorem ud_(x y:Int):(dg (x+y).natAbs).length≤(dg x.natAbs).length+(dg y.natAbs).length+1:=Nat.le_trans (ax_ (Int.natAbs_add_le x y)) (es_ _ _)
theorem jp_(x y:Int):(dg (x * y).natAbs).length≤(dg x.natAbs).length+(dg y.natAbs).length:=by rw[Int.natAbs_mul];exact bp_ _ _
open Go.ChangeShapes Go.WideShapes Go.ChangeAt Go.RowKit
section
variable {H:Type} {enc:TypeId × Value→H} {P:Program} {W:World} {base:Nat}
theorem po_{zs:List Int}(h:∀n∈zs,(Lit.int .u32 n).wf=true):∃l:List Nat,zs=l.map (fun x=>((x:Nat):Int))∧okw l:=by
 refine ⟨zs.map Int.toNat,?_,?_⟩
 ·rw[List.map_map]
  have:∀z∈zs,((fun x=>((x:Nat):Int)) ∘ Int.toNat) z=z:=fun z hz=>by
   have:=bounds_u32 (h z hz)
   show ((z.toNat:Nat):Int)=z
   omega
  conv=>lhs;rw[←List.map_id zs]
  exact List.map_congr_left (fun z hz=>(this z hz).symm)
 ·intro x hx
  obtain⟨z,hz,rfl⟩:=List.mem_map.1 hx
  have:=bounds_u32 (h z hz)
  omega
theorem u2_(l:List Nat)(j:Nat):(l.map fun x=>((x:Nat):Int)).getD j 0=((atw l j:Nat):Int):=by
 unfold atw
 rw[List.getD_eq_getElem?_getD,List.getD_eq_getElem?_getD,List.getElem?_map]
 cases l[j]? <;> rfl
theorem Wd.ofInts{a:Option Addr}{len cap:Nat}{zs:List Int}(hl:len≤cap)(hm:cap≤maxLen)(hn:a=none→cap=0)(hz:len≤zs.length)(hw:∀n∈zs,(Lit.int .u32 n).wf=true)
 (hc:∀a',a=some a'→∀i,i < len→W.cell? (a'.add i)=some (.int .u32 (zs.getD i 0))):∃l,Wd W a len cap l:=by
 obtain⟨l,rfl,ho⟩:=po_ hw
 have hll:(l.take len).length=len:=by rw[List.length_take];simp at hz;omega
 refine ⟨l.take len,hll,hl,by unfold maxLen at hm;omega,ik_ ho len,hn,?_⟩
 by_cases h0:len=0
 ·exact .inl h0
 ·cases a with
  | none=>have:=hn rfl;omega
  | some a'=>
    obtain⟨b,off,spot⟩:=a'
    have hspot:spot=none:=by simpa [Addr.add] using World.cell?_spot (hc _ rfl 0 (by omega))
    subst hspot
    refine .inr ⟨b,off,rfl,fun j hj=>?_⟩
    rw[←add_plain,hc _ rfl j hj,u2_,ih_ hj]
end
open Go.ChangeShapes Go.WideShapes Go.ChangeAt Go.RowKit Go.Deep
section
variable {H:Type} {enc:TypeId × Value→H} {P:Program} {W:World} {base:Nat}
theorem id_{t e:TypeId}{n0:Nat}{v:Value}{y:DataW H × List MemPlace}(ht:P.underlying t=some (.slice e))(he:P.underlying e=some (.int .u32))(hce:P.cellsOf e=1)
 (hf:DataW.trod enc P W 0 (fun _=>true) true n0 t [v]=some y):∃(a:OA_) (n cap:Nat) (l:List Nat),v=.slice a n cap∧Wd W a n cap l:=by
 rcases open_ints ht he hce hf with ⟨hcs,_⟩ | ⟨a,len',cap',zs,hcs,_,hl,hm,hz,_,hc,hw⟩
 ·simp at hcs
  exact⟨_,_,_,[],hcs,Wd.ofNil W⟩
 ·simp at hcs
  simp only[if_true] at hz
  obtain⟨l,hl'⟩:=Wd.ofInts (W:=W) (a:=some a) hl hm (fun e=>by cases e) (by omega) hw (fun a' e i hi=>by cases e;exact hc i (by omega))
  exact⟨_,_,_,l,hcs,hl'⟩
def frV (neg:Bool) (a:OA_) (n cap:Nat) (b:OA_) (m cap':Nat):Value:=.agg #[.bool neg,.slice a n cap,.slice b m cap']
theorem open_frac{t:TypeId}{f0 f1 f2:Field}{e:TypeId}{v:Value}{d:DataW H}{p:List MemPlace}(hs:P.underlying t=some (.struct #[f0,f1,f2]))(hone:oneCellFields P #[f0,f1,f2]=true)(hC:P.cellsOf t=3)
 (hb:P.underlying f0.type=some .bool) (ht:P.underlying f1.type=some (.slice e)) (ht2:P.underlying f2.type=some (.slice e)) (he:P.underlying e=some (.int .u32)) (hce:P.cellsOf e=1)
 (hv:Value.okWide P W .any base t v) (h:DataW.Trod enc P W 0 (fun _=>true) true t v d p) :
 ∃(neg:Bool) (a:OA_) (n cap:Nat) (l:List Nat) (b:OA_) (m cap':Nat) (k:List Nat),v=frV neg a n cap b m cap'∧Wd W a n cap l∧Wd W b m cap' k:=by
 obtain⟨v0,v1,v2,y0,y1,y2,m,rfl,_,_,h0,h1,h2⟩:=Joins.open_agg3 hs hone hC hv h
 obtain⟨b,e0,_⟩:=DataW.trod_bool hb h0
 simp at e0
 subst e0
 obtain⟨a,n,cap,l,rfl,hw⟩:=id_ ht he hce h1
 obtain⟨a2,n2,cap2,l2,rfl,hw2⟩:=id_ ht2 he hce h2
 exact⟨b,a,n,cap,l,a2,n2,cap2,l2,rfl,hw,hw2⟩
end
def qval (neg:Bool) (u v:Nat):Rat:=mkRat (zval neg u) v
def LstQ (q:Rat) (w:World) (e:Ending) (w':World):Prop:=
 ∃(a:OA_) (n cap:Nat) (b:OA_) (m cap':Nat),e=.returned (frV (zneg q.num) a n cap b m cap')∧Wd w' a n cap (dg q.num.natAbs)∧Wd w' b m cap' (dg q.den)∧Below w.heap.size w w'
theorem iz_(neg:Bool):zval neg 0=0:=by unfold zval;cases neg <;> rfl
theorem ef_(neg:Bool){u v:Nat}(h:v=0∨u=0):qval neg u v=0:=by
 unfold qval
 rcases h with rfl | rfl
 ·exact Rat.mkRat_zero _
 ·rw[iz_];exact Rat.zero_mkRat _
theorem zval_div(neg:Bool){u g:Nat}(h:g ∣ u):zval neg u / (g:Int)=zval neg (u / g):=by
 unfold zval
 cases neg
 ·simp
 ·simp only[reduceIte]
  rw[Int.neg_ediv_of_dvd (Int.natCast_dvd_natCast.2 h),Int.natCast_ediv]
theorem e9_(neg:Bool){u v:Nat}(hv:v≠0):(qval neg u v).num=zval neg (u / Nat.gcd u v)∧(qval neg u v).den=v / Nat.gcd u v:=by
 unfold qval
 rw[Rat.mkRat_def,dif_neg hv]
 refine ⟨?_,?_⟩
 ·rw[Rat.num_normalize,d0_,zval_div neg (Nat.gcd_dvd_left u v)]
 ·rw[Rat.den_normalize,d0_]
theorem qval_sign(neg:Bool){u v:Nat}(hv:v≠0)(hu:u≠0):zneg (qval neg u v).num=neg:=by
 have hg:u / Nat.gcd u v≠0:=Nat.ne_of_gt (Nat.div_pos (Nat.le_of_dvd (Nat.pos_of_ne_zero hu) (Nat.gcd_dvd_left u v)) (Nat.gcd_pos_of_pos_left _ (Nat.pos_of_ne_zero hu)))
 rw[(e9_ neg hv).1,h9_,decide_eq_true hg,Bool.and_true]
theorem er_(q:Rat):qval (zneg q.num) (val (dg q.num.natAbs)) (val (dg q.den))=q:=by
 unfold qval
 rw[a3_,a3_,hp_,Rat.mkRat_self]
theorem hc_:(dg 1).length≤1:=bn_ (by decide)
theorem num_nz{q:Rat}(h:q≠0):q.num≠0:=fun e=>h (Rat.num_eq_zero.1 e)
theorem n3_{q:Rat}(h:q≠0):(q⁻¹).num.natAbs=q.den∧(q⁻¹).den=q.num.natAbs:=by
 have h0:=num_nz h
 rw[Rat.num_inv,Rat.den_inv,if_neg h0,Int.natAbs_mul,Int.natAbs_natCast]
 refine ⟨?_,rfl⟩
 rcases Int.lt_trichotomy q.num 0 with g | g | g
 ·rw[Int.sign_eq_neg_one_of_neg g];simp
 ·exact absurd g h0
 ·rw[Int.sign_eq_one_of_pos g];simp
theorem l7_(neg:Bool)(u v:Nat):qval neg v u=(qval neg u v)⁻¹:=by
 unfold qval
 by_cases hv:v=0
 ·subst hv;rw[iz_,Rat.zero_mkRat,Rat.mkRat_zero,Rat.inv_zero]
 ·by_cases hu:u=0
  ·subst hu;rw[iz_,Rat.zero_mkRat,Rat.mkRat_zero,Rat.inv_zero]
  ·rw[←Rat.divInt_ofNat,←Rat.divInt_ofNat,Rat.inv_divInt]
   unfold zval
   cases neg
   ·rfl
   ·simp only[reduceIte]
    rw[Rat.divInt_neg']
theorem qinv_dg(q:Rat):qval (zneg q.num) (val (dg q.den)) (val (dg q.num.natAbs))=q⁻¹:=by rw[l7_,er_]
def powOk (q:Rat) (e:Int):Prop:=-8≤e∧e≤8∧(0≤e∨q≠0)
instance powOk.dec (q:Rat) (e:Int):Decidable (powOk q e):=by unfold powOk;infer_instance
theorem nq_(z:Int)(v:Nat):qval (zneg z) z.natAbs v=mkRat z v:=by unfold qval;rw[hp_]
theorem sn_(na nb:Bool)(u v s t:Nat):mkRat (zval na u * zval nb s) (v * t)=qval na u v * qval nb s t:=by
 unfold qval;rw[Rat.mkRat_mul_mkRat]
theorem r1_(neg:Bool)(u v:Nat):qval (!neg) u v = -qval neg u v:=by
 unfold qval
 rw[Rat.neg_mkRat]
 congr 1
 unfold zval;cases neg <;> simp
theorem r5_(na nb:Bool)(u v s t:Nat)(hv:v≠0)(ht:t≠0):mkRat (zval na u * ((t / Nat.gcd v t:Nat):Int)+zval nb s * ((v / Nat.gcd v t:Nat):Int)) (v * (t / Nat.gcd v t))=qval na u v+qval nb s t:=by
 unfold qval
 have hg:Nat.gcd v t≠0:=fun e=>hv (Nat.eq_zero_of_gcd_eq_zero_left e)
 obtain⟨x,hx⟩:=Nat.gcd_dvd_left v t
 obtain⟨y,hy⟩:=Nat.gcd_dvd_right v t
 have h1:v / Nat.gcd v t=x:=by
  have:Nat.gcd v t * x / Nat.gcd v t=x:=Nat.mul_div_cancel_left x (Nat.pos_of_ne_zero hg)
  rw[←hx] at this;exact this
 have h2:t / Nat.gcd v t=y:=by
  have:Nat.gcd v t * y / Nat.gcd v t=y:=Nat.mul_div_cancel_left y (Nat.pos_of_ne_zero hg)
  rw[←hy] at this;exact this
 rw[h1,h2,Rat.mkRat_add_mkRat _ _ hv ht]
 have hy0:y≠0:=fun e=>ht (by rw[hy,e,Nat.mul_zero])
 rw[Rat.mkRat_eq_iff (Nat.mul_ne_zero hv hy0) (Nat.mul_ne_zero hv ht)]
 generalize Nat.gcd v t=g at *
 subst hx
 subst hy
 push_cast
 grind
theorem nf_(z:Int){k:Nat}(hk:k≠0):sgn (z * k)=sgn z:=by
 have hk':0 < (k:Int):=by omega
 unfold sgn
 rcases Int.lt_trichotomy z 0 with h | h | h
 ·have:=Int.mul_neg_of_neg_of_pos h hk'
  rw[if_neg (by omega),if_pos this,if_neg (by omega),if_pos h]
 ·subst h;simp
 ·have:=Int.mul_pos h hk'
  rw[if_neg (by omega),if_neg (by omega),if_neg (by omega),if_neg (by omega)]
theorem hs_(z:Int){v:Nat}(hv:v≠0):sgn (mkRat z v).num=sgn z:=by
 rw[Rat.mkRat_def,dif_neg hv,Rat.num_normalize]
 have hg:Nat.gcd z.natAbs v≠0:=fun e=>hv (Nat.eq_zero_of_gcd_eq_zero_right e)
 have hd:((Nat.gcd z.natAbs v:Nat):Int) ∣ z:=Int.dvd_natAbs.1 (Int.natCast_dvd_natCast.2 (Nat.gcd_dvd_left _ _))
 have h1:=nf_ (z / (Nat.gcd z.natAbs v:Int)) hg
 rw[Int.ediv_mul_cancel hd] at h1
 exact h1.symm
theorem iu_(x y:Int){v t:Nat}(hv:v≠0)(ht:t≠0):mkRat x v - mkRat y t=mkRat (x * (t:Int) - y * (v:Int)) (v * t):=by
 rw[Rat.sub_eq_add_neg,Rat.neg_mkRat,Rat.mkRat_add_mkRat _ _ hv ht,Int.neg_mul,Int.sub_eq_add_neg]
theorem qk_(p q:Rat):p - q=mkRat (p.num * q.den - q.num * p.den) (p.den * q.den):=by
 rw[←iu_ p.num q.num p.den_nz q.den_nz,Rat.mkRat_self,Rat.mkRat_self]
theorem h7_(z:Int):(z < 0∧sgn z = -1)∨(z=0∧sgn z=0)∨(0 < z∧sgn z=1):=by
 unfold sgn
 rcases Int.lt_trichotomy z 0 with h | h | h
 ·left;exact⟨h,by rw[if_neg (by omega),if_pos h]⟩
 ·right;left;exact⟨h,by rw[if_pos h]⟩
 ·right;right;exact⟨h,by rw[if_neg (by omega),if_neg (by omega)]⟩
theorem se_{p q:Rat}(h:sgn p.num≠sgn q.num):sgn (sgn p.num - sgn q.num)=sgn (p - q).num:=by
 rw[qk_,hs_ _ (Nat.mul_ne_zero p.den_nz q.den_nz)]
 have hk:0 < (q.den:Int):=by have:=q.den_pos;omega
 have hl:0 < (p.den:Int):=by have:=p.den_pos;omega
 generalize (q.den:Int)=k at *
 generalize (p.den:Int)=l at *
 generalize p.num=x at *
 generalize q.num=y at *
 rcases h7_ x with ⟨hx,ex⟩ | ⟨hx,ex⟩ | ⟨hx,ex⟩ <;> rcases h7_ y with ⟨hy,ey⟩ | ⟨hy,ey⟩ | ⟨hy,ey⟩
 ·exact absurd (ex.trans ey.symm) h
 ·have h1:=Int.mul_neg_of_neg_of_pos hx hk
  subst hy
  rw[ex,ey];unfold sgn;simp;rw[if_neg (by omega)];omega
 ·have h1:=Int.mul_neg_of_neg_of_pos hx hk
  have h2:=Int.mul_pos hy hl
  rw[ex,ey];unfold sgn;rw[if_neg (by decide),if_pos (by decide),if_neg (by omega),if_pos (by omega)]
 ·subst hx
  have h2:=Int.mul_neg_of_neg_of_pos hy hl
  rw[ex,ey];unfold sgn;rw[if_neg (by decide),if_neg (by decide),if_neg (by omega),if_neg (by omega)]
 ·exact absurd (ex.trans ey.symm) h
 ·subst hx
  have h2:=Int.mul_pos hy hl
  rw[ex,ey];unfold sgn;rw[if_neg (by decide),if_pos (by decide),if_neg (by omega),if_pos (by omega)]
 ·have h1:=Int.mul_pos hx hk
  have h2:=Int.mul_neg_of_neg_of_pos hy hl
  rw[ex,ey];unfold sgn;rw[if_neg (by decide),if_neg (by decide),if_neg (by omega),if_neg (by omega)]
 ·have h1:=Int.mul_pos hx hk
  subst hy
  rw[ex,ey];unfold sgn;rw[if_neg (by decide),if_neg (by decide),if_neg (by omega),if_neg (by omega)]
 ·exact absurd (ex.trans ey.symm) h
theorem qo_{na nb:Bool}{u v s t:Nat}(hv:v≠0)(ht:t≠0):sgn (zval na u * (t:Int) - zval nb s * (v:Int))=sgn (qval na u v - qval nb s t).num:=by
 unfold qval
 rw[iu_ _ _ hv ht,hs_ _ (Nat.mul_ne_zero hv ht)]
theorem fc_qsign{neg:Bool}{u v:Nat}(hv:v≠0):sgn (qval neg u v).num=sgn (zval neg u):=hs_ _ hv
theorem fc_qsign_zero{q:Rat}:sgn q.num=0↔q=0:=by
 constructor
 ·intro h
  rcases h7_ q.num with ⟨_,e⟩ | ⟨e,_⟩ | ⟨_,e⟩
  ·omega
  ·exact Rat.num_eq_zero.1 e
  ·omega
 ·intro h;subst h;rfl
def o9_:List UInt8→Nat
 | [] => 0
 | x :: r=>if x.toNat=47∨x.toNat=46 then 0 else o9_ r+1
def ru_ (l:List UInt8):List UInt8:=l.take (o9_ l)
def m6_ (l:List UInt8):List UInt8:=l.drop (o9_ l+1)
def fbyte (l:List UInt8):Nat:=(l.getD (o9_ l) 0).toNat
def rx_ (l:List UInt8):Int:=
 if 0≤tk_ (ru_ l) then 1 else if o9_ l=l.length then 0 else if 0≤mp_ (m6_ l) then 1 else if fbyte l≠46∧sh_ (m6_ l)=0 then 2 else 0
def figPlace (l:List UInt8):Int:=
 if 0≤tk_ (ru_ l) then tk_ (ru_ l) else if o9_ l=l.length then 0 else if 0≤mp_ (m6_ l) then ((o9_ l+1:Nat):Int)+mp_ (m6_ l) else if fbyte l≠46∧sh_ (m6_ l)=0 then ((o9_ l+1:Nat):Int) else 0
def uj_ (l:List UInt8):Rat:=
 if 0≤tk_ (ru_ l) then 0 else if o9_ l=l.length then ((zread (ru_ l):Int):Rat) else if 0≤mp_ (m6_ l) then 0
 else if fbyte l=46 then mkRat (zval (decide ((l.getD 0 0).toNat=45)) ((zread (ru_ l)).natAbs * 10 ^ (m6_ l).length+sh_ (m6_ l))) (10 ^ (m6_ l).length)
 else if sh_ (m6_ l)=0 then 0 else mkRat (zread (ru_ l)) (sh_ (m6_ l))

def oddp (v:Nat):Nat:=v / 2 ^ tz v
theorem i9_{v:Nat}(h:v≠0):v=2 ^ tz v * oddp v∧oddp v % 2=1:=by
 obtain⟨m,hm⟩:=s4_ v h
 have h1:oddp v=2 * m+1:=by
  unfold oddp
  conv=>lhs;arg 1;rw[hm]
  exact Nat.mul_div_cancel_left _ (Nat.two_pow_pos _)
 rw[h1]
 exact⟨hm,by omega⟩
theorem r8_{x:Nat}(h:x % 2=1):Nat.Coprime 2 x:=by
 rw[Nat.coprime_iff_gcd_eq_one,Nat.gcd_rec,h];decide
theorem gcd_parts{a b:Nat}(ha:a≠0)(hb:b≠0):Nat.gcd a b=Nat.gcd (oddp a) (oddp b) * 2 ^ min (tz a) (tz b):=by
 obtain⟨h1,h2⟩:=i9_ ha
 obtain⟨h3,h4⟩:=i9_ hb
 generalize oddp a=X at *
 generalize oddp b=Y at *
 generalize tz a=m at *
 generalize tz b=n at *
 subst h1
 subst h3
 rcases Nat.le_total m n with h | h
 ·obtain⟨k,rfl⟩:∃k,n=m+k:=⟨n - m,by omega⟩
  rw[Nat.min_eq_left h,Nat.pow_add,Nat.mul_assoc,Nat.gcd_mul_left,Nat.mul_comm]
  congr 1
  exact Nat.Coprime.gcd_mul_left_cancel_right _ ((r8_ h2).pow_left k)
 ·obtain⟨k,rfl⟩:∃k,m=n+k:=⟨m - n,by omega⟩
  rw[Nat.min_eq_right h,Nat.pow_add,Nat.mul_assoc,Nat.gcd_mul_left,Nat.mul_comm]
  congr 1
  exact Nat.Coprime.gcd_mul_left_cancel _ ((r8_ h4).pow_left k)
theorem uh_{X Y:Nat}(hlt:Y < X)(hY:Y % 2=1):Nat.gcd (oddp (X - Y)) Y=Nat.gcd X Y∧oddp (X - Y) < X∧oddp (X - Y) % 2=1:=by
 obtain⟨h1,h2⟩:=i9_ (v:=X - Y) (by omega)
 refine ⟨?_,?_,h2⟩
 ·have h3:Nat.gcd (X - Y) Y=Nat.gcd X Y:=Nat.gcd_sub_self_left (by omega)
  rw[←h3]
  conv=>rhs;arg 1;rw[h1]
  exact (Nat.Coprime.gcd_mul_left_cancel _ ((r8_ hY).pow_left _)).symm
 ·have h4:oddp (X - Y)≤X - Y:=Nat.div_le_self _ _
  omega
def ke_ (L R:List Nat) (s k:Nat):Prop:=low R k=val L / 2 ^ s % 4294967296 ^ k∧∀j,k≤j→atw R j=atw L j
theorem so_(L:List Nat)(s:Nat):ke_ L L s 0:=⟨by rw[cj_,Nat.pow_zero,Nat.mod_one],fun _ _=>rfl⟩
theorem low_set{R:List Nat}{k y:Nat}:low (R.set k y) k=low R k:=by
 unfold low;rw[List.take_set,List.set_eq_of_length_le (by rw[List.length_take];omega)]
theorem rr_{R:List Nat}{k y:Nat}(h:k < R.length):atw (R.set k y) k=y:=by
 unfold atw;rw[List.getD_eq_getElem?_getD,List.getElem?_set_self h];rfl
theorem vw_{L:List Nat}(ho:okw L){s k:Nat}(hs:s≤32):val L / 2 ^ s / 4294967296 ^ k % 4294967296=(atw L (k+1) * 4294967296+atw L k) / 2 ^ s % 4294967296:=by
 have h1:val L / 2 ^ s / 4294967296 ^ k=top L k / 2 ^ s:=by
  rw[s0_ ho k,Nat.div_div_eq_div_mul,Nat.div_div_eq_div_mul,i6_,Nat.mul_comm]
 have h2:top L k=atw L (k+1) * 4294967296+atw L k+2 ^ s * (4294967296 * (2 ^ (32 - s) * top L (k+2))):=by
  have h3:2 ^ s * (4294967296 * (2 ^ (32 - s) * top L (k+2)))=4294967296 * (4294967296 * top L (k+2)):=by
   rw[Nat.mul_left_comm,←Nat.mul_assoc (2 ^ s),←Nat.pow_add,show s+(32 - s)=32 by omega]
  rw[h3,b6_ L k,b6_ L (k+1),show k+1+1=k+2 from rfl]
  omega
 rw[h1,h2,Nat.add_mul_div_left _ _ (Nat.two_pow_pos s),Nat.add_mul_mod_self_left]
theorem uy_{L R:List Nat}{s k y:Nat}(h:ke_ L R s k)(ho:okw L)(hs:s≤32)(hk:k < R.length)(hy:y=(atw L (k+1) * 4294967296+atw L k) / 2 ^ s % 4294967296):ke_ L (R.set k y) s (k+1):=by
 refine ⟨?_,fun j hj=>by rw[ep_ (by omega)];exact h.2 j (by omega)⟩
 rw[dj_,low_set,rr_ hk,h.1,hy,←vw_ ho hs,Nat.pow_succ,Nat.mod_mul]
theorem shift_end{L R:List Nat}{s n:Nat}(h:ke_ L R s n)(ho:okw L)(hL:L.length=n)(hR:R.length=n):val R=val L / 2 ^ s:=by
 have h1:=h.1
 rw[eh_ (by omega)] at h1
 rw[h1]
 apply Nat.mod_eq_of_lt
 have h2:=ee_ ho
 rw[hL] at h2
 exact Nat.lt_of_le_of_lt (Nat.div_le_self _ _) h2
theorem sb_{L:List Nat}{q:Nat}(h:low L q=0)(hz:atw L q=0):low L (q+1)=0:=by rw[dj_,h,hz];simp
theorem t9_{L:List Nat}{q:Nat}(h:low L q=0)(hv:val L≠0):q < L.length:=by
 rcases Nat.lt_or_ge q L.length with h1 | h1
 ·exact h1
 ·rw[eh_ h1] at h;exact absurd h hv
theorem vj_(l:List Nat)(q r:Nat):val (List.replicate q 0 ++ l) * val [2 ^ r]=val l * 2 ^ (32 * q+r):=by
 rw[ft_,fg_,List.length_replicate,Nat.zero_add,i6_]
 simp only[val]
 rw[Nat.mul_zero,Nat.add_zero,Nat.pow_add,Nat.mul_comm (2 ^ (32 * q)),Nat.mul_assoc]
end Go.Proofs.YtocebjbjnfammaaGreat
