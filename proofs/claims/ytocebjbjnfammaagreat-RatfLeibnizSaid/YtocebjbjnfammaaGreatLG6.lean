import Derived.Test.YtocebjbjnfammaaGreatLG5
import Derived.Test.YtocebjbjnfammaaGreatLG2
import Derived.Test.YtocebjbjnfammaaGreatLG3
import Derived.Deep.RegionHeld3
import Derived.Test.YtocebjbjnfammaaGreatLG4
import Derived.Deep.RegionLaw
import Derived.Deep.RegionWith
import Derived.Deep.CutRange
import Derived.Test.YtocebjbjnfammaaGreatLG1
import Derived.BigRegion
import Derived.BigQuiet
import Derived.Deep.QuietTactic
import Derived.Deep.DeepMust
import Derived.Lib.AppendIntMem
import Derived.Lib.AppendStr
import Derived.Laws.IdiomStrings
import Derived.Laws.Slices
import Derived.OwnWalk
import Derived.BigCall
import Derived.BigGuard
set_option maxRecDepth 4096
set_option maxHeartbeats 16000000
namespace Go.Proofs.YtocebjbjnfammaaGreat
open Go.RowKit
theorem gk_{a b:Option Addr}{n m c d:Nat}:k9_ [.slice a n c,.slice b m d]:=by
 intro u hu
 simp at hu
 rcases hu with rfl | rfl
 ·exact⟨_,_,_,rfl⟩
 ·exact⟨_,_,_,rfl⟩
theorem Rw.boxed{w:World}{a:Option Addr}{n c:Nat}{qs:List Rat}(h:Rw w a n c qs){g:Nat}{x y:Option Addr}{n1 c1 n2 c2:Nat}{t:TypeId}(hg:w.heap[g]? = some (.cells #[.slice x n1 c1,.slice y n2 c2] t (0,0)))(u v:Value) :
 Rw ((w.setCell ⟨g,0,none⟩ u).setCell ⟨g,1,none⟩ v) a n c qs:=by
 obtain⟨L,h1,h2,h3⟩:=h
 exact⟨L,h1.aside (v:=.slice (some ⟨g,0,none⟩) 0 0) (c2_ hg gk_) (df_ (ct_ w g 0 u) (ct_ _ g 1 v)),h2,h3⟩
theorem Rw.lit1(w:World)(e:TypeId){q:Rat}{a b:Option Addr}{n c m d:Nat}(h1:Wd w a n c (dg q.num.natAbs))(h2:Wd w b m d (dg q.den)) :
 Rw (w.alloc (.cells #[.bool (zneg q.num),.slice a n c,.slice b m d] e)) (some ⟨w.heap.size,0,none⟩) 1 1 [q]:=by
 have hb:Below w.heap.size w (w.alloc (.cells #[.bool (zneg q.num),.slice a n c,.slice b m d] e)):=aa_ _ _
 have hx:=ao_ w #[.bool (zneg q.num),.slice a n c,.slice b m d] e
 refine ⟨[rx q a n c b m d],⟨rfl,Nat.le_refl _,by omega,fun h=>(by cases h),fun x hx=>?_,.inr ⟨w.heap.size,0,rfl,fun j hj=>?_⟩⟩,by simp[rx_q],fun x hx=>?_⟩
 ·rw[List.mem_singleton.1 hx];exact⟨h1.later hb,h2.later hb⟩
 ·match j,hj with
  | 0,_=>exact⟨ad_ hx 0,ad_ hx 1,ad_ hx 2⟩
 ·rw[List.mem_singleton.1 hx];exact di_ ..
theorem bw_{w:World}{A0:Nat}{x y:Value}{t0:TypeId}(h0:w.heap[A0]? = some (.cells #[x,y] t0 (0,0))):w.cell? ⟨A0,0,none⟩=some x∧w.cell? ⟨A0,1,none⟩=some y:=⟨ad_ h0 0,ad_ h0 1⟩
def LstF (U V:LR_) (w:World) (e:Ending) (w':World):Prop:=∃(a:OA_) (n c:Nat) (u:LR_) (b:OA_) (m d:Nat) (v:LR_),e=.returned (.agg #[.slice a n c,.slice b m d])∧Rw w' a n c u∧Rw w' b m d v∧isF U V u v∧Below w.heap.size w w'
abbrev Pok (h s:Nat):Prop:=h≤50∧(4 * h+24) * ((s+1) * (2 * h+1)+5)≤1900000000
theorem Pok.less{h s h' s':Nat}(k:Pok h s)(hh:h'≤h)(hs:s'≤s):Pok h' s':=by
 obtain⟨h1,h2⟩:=k
 exact⟨by omega,Nat.le_trans (Nat.mul_le_mul (by omega) (Nat.add_le_add_right (Nat.mul_le_mul (by omega) (by omega)) 5)) h2⟩
def Fok (h s:Nat):Prop:=2≤h∧h≤50∧3 * (s+2+2 * h * ((s+1) * (2 * h+1)+3))≤1900000000∧Pok h s
theorem Fok.less{h s h' s':Nat}(k:Fok h s)(h2:2≤h')(hh:h'≤h)(hs:s'≤s):Fok h' s':=by
 obtain⟨k1,k2,k3,k4⟩:=k
 refine ⟨h2,by omega,Nat.le_trans (Nat.mul_le_mul_left 3 (Nat.add_le_add (by omega) (Nat.mul_le_mul (by omega) (Nat.add_le_add_right (Nat.mul_le_mul (by omega) (by omega)) 3)))) k3,k4.less hh hs⟩
theorem qd_(neg:Bool)(a:OA_)(n cap:Nat)(b:OA_)(m cap':Nat)(w:World):Calls Tryz.prog 17 #[frV neg a n cap b m cap'] w (bo_ (frV neg a n cap b m cap') w):=by
 have HG:Hid (((w.alloc (.cells #[.bool neg,.slice a n cap,.slice b m cap'] 27)).alloc (.cells #[.bool neg,.slice a n cap,.slice b m cap'] 44)).heap[w.heap.size+1]? = some (.cells #[.bool neg,.slice a n cap,.slice b m cap'] 44 (0,0))):=hd_ (d0_ w ((w.alloc (.cells #[.bool neg,.slice a n cap,.slice b m cap'] 27)).alloc (.cells #[.bool neg,.slice a n cap,.slice b m cap'] 44)) _ _ _ _ (Below.refl _ _)).2
 have HB:=hd_ (ab_ (aa_ w (.cells #[.bool neg,.slice a n cap,.slice b m cap'] 27)) (aa_ _ (.cells #[.bool neg,.slice a n cap,.slice b m cap'] 44)))
 go_enter Tryz.func17,Tryz.ntmps17
 unfold frV
 go_wp2
 refine bodyPost_ret (results_cell_row Tryz.results17 _ _ (w.heap.size+1) 44 #[.bool neg,.slice a n cap,.slice b m cap'] (0,0) _ rfl HG.out Tryz.underlying44 rfl (by kernel_rfl)) rfl ?_
 exact⟨rfl,HB.out⟩

theorem dt_{w:World}{A0:Nat}{c0_0 c0_1:Value}{t0:TypeId}(h0:w.heap[A0]? = some (.cells #[c0_0,c0_1] t0 (0,0))):w.cell? ⟨A0,0,none⟩=some c0_0∧w.cell? ⟨A0,1,none⟩=some c0_1:=⟨ad_ h0 0,ad_ h0 1⟩
theorem av_{w:World}{A0:Nat}{c0_0 c0_1 c0_2:Value}{t0:TypeId}(h0:w.heap[A0]? = some (.cells #[c0_0,c0_1,c0_2] t0 (0,0))):w.cell? ⟨A0,0,none⟩=some c0_0∧w.cell? ⟨A0,1,none⟩=some c0_1∧w.cell? ⟨A0,2,none⟩=some c0_2:=⟨ad_ h0 0,ad_ h0 1,ad_ h0 2⟩
theorem a0_{w:World}{A0 A1:Nat}{c0_0 c0_1 c1_0 c1_1:Value}{t0 t1:TypeId}(h0:w.heap[A0]? = some (.cells #[c0_0,c0_1] t0 (0,0)))(h1:w.heap[A1]? = some (.cells #[c1_0,c1_1] t1 (0,0))):w.cell? ⟨A0,0,none⟩=some c0_0∧w.cell? ⟨A0,1,none⟩=some c0_1∧w.cell? ⟨A1,0,none⟩=some c1_0∧w.cell? ⟨A1,1,none⟩=some c1_1:=⟨ad_ h0 0,ad_ h0 1,ad_ h1 0,ad_ h1 1⟩
theorem cd_{w:World}{A0 A1:Nat}{c0_0 c0_1 c1_0 c1_1 c1_2:Value}{t0 t1:TypeId}(h0:w.heap[A0]? = some (.cells #[c0_0,c0_1] t0 (0,0)))(h1:w.heap[A1]? = some (.cells #[c1_0,c1_1,c1_2] t1 (0,0))):w.cell? ⟨A0,0,none⟩=some c0_0∧w.cell? ⟨A0,1,none⟩=some c0_1∧w.cell? ⟨A1,0,none⟩=some c1_0∧w.cell? ⟨A1,1,none⟩=some c1_1∧w.cell? ⟨A1,2,none⟩=some c1_2:=⟨ad_ h0 0,ad_ h0 1,ad_ h1 0,ad_ h1 1,ad_ h1 2⟩
theorem a7_{w:World}{A0 A1:Nat}{c0_0 c0_1 c0_2 c1_0 c1_1 c1_2:Value}{t0 t1:TypeId}(h0:w.heap[A0]? = some (.cells #[c0_0,c0_1,c0_2] t0 (0,0)))(h1:w.heap[A1]? = some (.cells #[c1_0,c1_1,c1_2] t1 (0,0))):w.cell? ⟨A0,0,none⟩=some c0_0∧w.cell? ⟨A0,1,none⟩=some c0_1∧w.cell? ⟨A0,2,none⟩=some c0_2∧w.cell? ⟨A1,0,none⟩=some c1_0∧w.cell? ⟨A1,1,none⟩=some c1_1∧w.cell? ⟨A1,2,none⟩=some c1_2:=⟨ad_ h0 0,ad_ h0 1,ad_ h0 2,ad_ h1 0,ad_ h1 1,ad_ h1 2⟩
theorem b9_{w:World}{A0 A1 A2:Nat}{c0_0 c0_1 c0_2 c1_0 c1_1 c1_2 c2_0 c2_1 c2_2:Value}{t0 t1 t2:TypeId}(h0:w.heap[A0]? = some (.cells #[c0_0,c0_1,c0_2] t0 (0,0)))(h1:w.heap[A1]? = some (.cells #[c1_0,c1_1,c1_2] t1 (0,0)))(h2:w.heap[A2]? = some (.cells #[c2_0,c2_1,c2_2] t2 (0,0))):w.cell? ⟨A0,0,none⟩=some c0_0∧w.cell? ⟨A0,1,none⟩=some c0_1∧w.cell? ⟨A0,2,none⟩=some c0_2∧w.cell? ⟨A1,0,none⟩=some c1_0∧w.cell? ⟨A1,1,none⟩=some c1_1∧w.cell? ⟨A1,2,none⟩=some c1_2∧w.cell? ⟨A2,0,none⟩=some c2_0∧w.cell? ⟨A2,1,none⟩=some c2_1∧w.cell? ⟨A2,2,none⟩=some c2_2:=⟨ad_ h0 0,ad_ h0 1,ad_ h0 2,ad_ h1 0,ad_ h1 1,ad_ h1 2,ad_ h2 0,ad_ h2 1,ad_ h2 2⟩
theorem kp_{c:Rat}{l:List Rat}{k:Nat}(h:k < l.length):(af_ c l).getD k 0=c * l.getD k 0:=by
 unfold af_
 rw[List.getD_eq_getElem?_getD,List.getD_eq_getElem?_getD,List.getElem?_map,List.getElem?_eq_getElem h];rfl
theorem g8_:∀{l m:List Rat} {k:Nat},k < l.length→k < m.length→(radd l m).getD k 0=l.getD k 0+m.getD k 0
 | [],_,_,h,_=>by simp at h
 | _ :: _,[],_,_,h=>by simp at h
 | x :: l,y :: m,0,_,_=>rfl
 | x :: l,y :: m,k+1,h,h'=>by
   have:=g8_ (l:=l) (m:=m) (k:=k) (by simpa using h) (by simpa using h')
   simpa [radd] using this
theorem oo_:(Tryz.prog.info? 44).map (fun i=>(i.zero,i.size,i.bytes))=some (some (.agg #[.bool false,.slice none 0 0,.slice none 0 0]),3,56):=by kernel_rfl
theorem qw_(a:OA_)(n c:Nat)(L:List Fx)(w:World)(h:Fxs w a n c L)(hn:n≤1000) :
 Calls Tryz.prog 60 #[.slice a n c] w (fun e w'=>∃(a':OA_) (c':Nat),e=.returned (.slice a' n c')∧Fxs w' a' n c' L∧Below w.heap.size w w'):=by
 have HK:=hd_ h
 have HLl:=hd_ h.len
 have hbd:=h.bound
 clear h
 obtain⟨i0,hi,hz0,hz1,hz2⟩:=info_parts oo_
 go_enter Tryz.func60,Tryz.ntmps60
 go_wp2
 go_loopw [3,4] (fun mv iv wr=>∃k:Nat,k≤n∧iv=.int .i64 (k:Int)∧Hid (Cop wr w.heap.size 44 mv (L.take k))∧Hid (Below w.heap.size w wr)∧w.heap.size≤wr.heap.size) (fun _ iv _=>n - (intOf iv).toNat)
 case atStart=>exact⟨0,by omega,rfl,hd_ (Cop.nil _ _ _),hd_ (Below.refl _ _),by omega⟩
 case round=>
  obtain⟨k,hk,rfl,HO,HB,hsz⟩:=hrel
  by_cases hlt:k < n
  ·obtain⟨bb,off,rfl,e0,e1,e2,hok⟩:=HK.out.at hlt
   have HT:Hid (L.take (k+1)=L.take k ++ [L.getD k Fx.zero]):=hd_ (mc_ (by rw[HLl.out];exact hlt))
   have hkL:(L.take k).length≤1000000:=by rw[c8_ (by rw[HLl.out];exact hk)];omega
   generalize L.getD k Fx.zero=xk at *
   obtain⟨sk,ak,nk,ck,lak,bk,mk,dk,lbk⟩:=xk
   simp only at e0 e1 e2
   have HY:=hd_ hok
   have HE:Hid (w.cell? ⟨bb,off+k * 3,none⟩=some (.bool sk)∧w.cell? ⟨bb,off+k * 3+1,none⟩=some (.slice ak nk ck)∧w.cell? ⟨bb,off+k * 3+2,none⟩=some (.slice bk mk dk)):=hd_ ⟨e0,e1,e2⟩
   clear hok e0 e1 e2
   have hki:(k:Int) < (n:Int):=by omega
   obtain⟨e0,e1,e2⟩:=as_ HE.out HB.out
   go_wp2_with fail
   refine (qd_ sk ak nk ck bk mk dk _).mono ?_
   rintro e w4 ⟨rfl,b4⟩
   clear e0 e1 e2
   replace HB:=bt_ HB b4
   replace HO:=HO.l_ b4
   have hsz4:w.heap.size≤w4.heap.size:=Nat.le_trans hsz b4.size
   clear b4 hsz
   unfold frV
   have ba:=aa_ w4 (.cells #[.bool sk,.slice ak nk ck,.slice bk mk dk] 44)
   have HOa:=HO.l_ ba
   have HBa:=hd_ (ab_ HB.out ba)
   have HYa:=hd_ (HY.out.later HBa.out)
   clear ba HO HB
   go_wp2_with (at_builtin;refine ih_ _ rfl _ _ 33 rfl w.heap.size 44 i0 Tryz.underlying33 hi hz0 hz1 hz2 _ (L.take k) rfl HOa.out ⟨w4.heap.size,0,none⟩ ⟨sk,ak,nk,ck,lak,bk,mk,dk,lbk⟩ rfl (rd_ _ _ _) HYa.out hkL (by rw[aw_];omega) ?_)
   intro mv5 w5 hrow hgrow hbase hcl
   have HO5:Hid (Cop w5 w.heap.size 44 mv5 (L.take (k+1))):=hd_ (by rw[HT.out];exact hrow)
   have HB5:=hd_ (HBa.out.grown hgrow (by rw[aw_];omega) hbase)
   have hsz5:w.heap.size≤w5.heap.size:=Nat.le_trans (by rw[aw_];omega) hgrow.size
   clear hrow hgrow hbase hcl HOa HBa HYa HT HE HY hsz4
   go_wp2
   go_roundw
   case rel=>exact⟨k+1,by omega,by go_num,HO5,HB5,hsz5⟩
   case measure=>simp[intOf];omega
  ·obtain rfl:k=n:=by omega
   have HF:=hd_ (HO.out.whole HLl.out)
   obtain⟨a9,c9,rfl,h9⟩:=HF.out.out
   rw[HLl.out] at h9 ⊢
   have HF9:=hd_ h9
   clear h9 HF HO
   go_wp2
   go_ret
   exact⟨a9,c9,rfl,HF9.out,HB.out⟩


theorem hy_(a:OA_)(n c:Nat)(L:List Fx)(K N:Int)(r:Bool)(w:World)(h:Fxs w a n c L)(hK:0≤K∧K≤1000)(hr:Hid (r=true↔¬((n:Int)≤K∧thinI N L))) :
 Calls Tryz.prog 45 #[.slice a n c,.int .i64 K,.int .i64 N] w (bo_ (.bool r) w):=by
 have HK:=hd_ h
 have HLl:=hd_ h.len
 have hbd:=h.bound
 obtain⟨hK0,hK1⟩:=hK
 clear h
 go_enter Tryz.func45,Tryz.ntmps45
 go_wp2
 go_loopw [7] (fun iv wr=>∃k:Nat,k≤n∧(k:Int)≤K∧iv=.int .i64 (k:Int)∧Hid (thinI N (L.take k))∧Hid (Below w.heap.size w wr)) (fun iv _=>n - (intOf iv).toNat)
 case atStart=>exact⟨0,by omega,by omega,rfl,hd_ (fun x hx=>by simp at hx),hd_ (Below.refl _ _)⟩
 case round=>
  obtain⟨k,hk,hkK,rfl,HTh,HB⟩:=hrel
  by_cases hlt:k < n
  ·have hki:(k:Int) < (n:Int):=by omega
   by_cases hltK:(k:Int) < K
   ·obtain⟨bb,off,rfl,e0,e1,e2,-⟩:=HK.out.at hlt
    have HT:Hid (L.take (k+1)=L.take k ++ [L.getD k Fx.zero]):=hd_ (mc_ (by rw[HLl.out];exact hlt))
    have HM:Hid (L.getD k Fx.zero∈L):=hd_ (d5_ (by rw[HLl.out];exact hlt))
    generalize L.getD k Fx.zero=xk at *
    obtain⟨sk,ak,nk,ck,lak,bk,mk,dk,lbk⟩:=xk
    simp only at e0 e1 e2
    have HE:Hid (w.cell? ⟨bb,off+k * 3,none⟩=some (.bool sk)∧w.cell? ⟨bb,off+k * 3+1,none⟩=some (.slice ak nk ck)∧w.cell? ⟨bb,off+k * 3+2,none⟩=some (.slice bk mk dk)):=hd_ ⟨e0,e1,e2⟩
    clear e0 e1 e2
    obtain⟨e0,e1,e2⟩:=as_ HE.out HB.out
    go_wp2_with fail
    refine (id_ sk ak nk ck bk mk dk N _).mono ?_
    rintro e w4 ⟨rfl,b4⟩
    clear e0 e1 e2
    replace HB:=bt_ HB b4
    clear b4
    by_cases hb:N < (nk:Int)∨N < (mk:Int)
    ·have hl:(decide (N < (nk:Int)) || decide (N < (mk:Int)))=true:=by
      rw[Bool.or_eq_true]
      exact hb.imp decide_eq_true decide_eq_true
     rw[hl]
     have hrt:r=true:=hr.out.2 (fun h8=>by
      have:=h8.2 _ HM.out
      simp only at this
      omega)
     subst hrt
     clear hl hb
     go_wp2
     go_ret
     exact⟨rfl,HB.out⟩
    ·have hl:(decide (N < (nk:Int)) || decide (N < (mk:Int)))=false:=by
      rw[decide_eq_false (fun h=>hb (.inl h)),decide_eq_false (fun h=>hb (.inr h))];rfl
     rw[hl]
     have HTh9:Hid (thinI N (L.take (k+1))):=hd_ (fun x hx=>by
      rw[HT.out] at hx
      rcases List.mem_append.1 hx with hx | hx
      ·exact HTh.out x hx
      ·rw[List.mem_singleton.1 hx]
       simp only
       omega)
     clear hl hb HTh HT HM
     go_wp2
     go_roundw
     case rel=>exact⟨k+1,by omega,by omega,by go_num,HTh9,HB⟩
     case measure=>simp[intOf];omega
   ·have hrt:r=true:=hr.out.2 (fun h8=>by have:=h8.1;omega)
    have hnk:K < (n:Int):=by omega
    subst hrt
    go_wp2
    go_ret
    exact⟨rfl,HB.out⟩
  ·obtain rfl:k=n:=by omega
   have hrf:r=false:=by
    cases r with
    | false=>rfl
    | true=>
      refine absurd (hr.out.1 rfl) (fun h8=>h8 ⟨hkK,?_⟩)
      have h9:=HTh.out
      rwa [List.take_of_length_le (by rw[HLl.out];exact Nat.le_refl _)] at h9
   subst hrf
   have hnk:¬K < (k:Int):=by omega
   go_wp2
   go_ret
   exact⟨rfl,HB.out⟩

theorem md_(z:Int):zval (zneg z) (val (dg z.natAbs))=z:=by rw[a8_,j4_]
structure WholeSaid:Prop where
def OwnPost (w0:World) (v:Nat) (e:Ending) (w':World):Prop:=
 ∃g n cap:Nat,e=.returned (.slice (some ⟨g,0,none⟩) n cap)∧Hid (Own w' w0.heap.size g n cap (dg v))∧Below w0.heap.size w0 w'
theorem nat_addTo(w0 w:World)(g n cap p:Nat)(b:OA_)(m cap' q:Nat)(ho:Own w w0.heap.size g n cap (dg p))(hB:Below w0.heap.size w0 w)(hb:Wd w0 b m cap' (dg q))(hn:n≤2097152000000)(hm:m≤2097152000000) :
 Calls Tryz.prog 156 #[.slice (some ⟨g,0,none⟩) n cap,.slice b m cap'] w (OwnPost w0 (p+q)):=by
 obtain⟨i0,hi,hz0,hz1,hz2⟩:=info_parts fw_
 obtain⟨hb1,hb2⟩:=hb.bound
 have Ho:=hd_ ho
 have Hb:=hd_ hb
 clear ho hb
 go_enter Tryz.func156,Tryz.ntmps156
 go_wp2
 go_loopw [0] (fun s wr=>∃g' n' cap' j:Nat,s=.slice (some ⟨g',0,none⟩) n' cap'∧n'≤2097152000000∧Hid (n'=n+j∧(j=0∨n'≤m))∧Hid (Own wr w0.heap.size g' n' cap' (dg p ++ List.replicate j 0))∧Below w0.heap.size w0 wr) (fun s _=>m - lenOf s)
 case atStart=>exact⟨g,n,cap,0,rfl,by omega,hd_ ⟨rfl,.inl rfl⟩,hd_ (by simpa using Ho.out),hB⟩
 case round=>
  obtain⟨g',n',cap2,j,rfl,hn2,Hnj,Ho',hB'⟩:=hrel
  by_cases hlt:n' < m
  ·have hbase:w0.heap.size≤wr.heap.size:=hB'.size
   go_wp2_with (at_builtin;refine wpList_append_own _ rfl _ _ 25 rfl w0.heap.size 81 i0 (.int .u32 0) 1 4 Tryz.underlying25 hi hz0 hz1 hz2 rfl (by decide) _ n' _ rfl (Ho'.out.1.alloc _) ⟨wr.heap.size,0,none⟩ 1 1 (cp_ [0]) rfl rfl (Wd.lit1 wr 81 (x:=0) (by omega)).cells (d3_ _) (by unfold maxLen;omega) (by omega) (by simp;omega) ?_)
   intro v' w1 hown hgrow _
   obtain⟨g2,cap3,rfl,HO⟩:=Own.push (r:=0) hown Ho'.out.2 (by decide)
   have HO':=hd_ HO
   have hb:=Ho'.out.base
   have hB1:Below w0.heap.size w0 w1:=(hB'.alloc hbase _).grown hgrow (by simp;omega) (by intro k hk;simp[Value.ownBlock] at hk;omega)
   clear HO hown hgrow
   go_wp2
   go_roundw
   case rel=>exact⟨g2,n'+1,cap3,j+1,rfl,by omega,hd_ ⟨by have:=Hnj.out;omega,.inr (by omega)⟩,hd_ (by have:=HO'.out;rwa [List.append_assoc,←List.replicate_succ'] at this),hB1⟩
   case measure=>simp[lenOf];omega
  ·have hge:Hid (n'=0∨4294967296 ^ (n' - 1)≤p+q):=hd_ (by
    have hm':=Hb.out.len
    obtain⟨hn',hj⟩:=Hnj.out
    have hnl:=Ho.out.len
    by_cases h0:n'=0
    ·exact .inl h0
    ·refine .inr ?_
     rcases hj with hj | hj
     ·have h1:=dg_ge (n:=p) (by omega)
      rw[show (dg p).length=n' by omega] at h1
      omega
     ·have h1:=dg_ge (n:=q) (by omega)
      rw[show (dg q).length=n' by omega] at h1
      omega)
   have hx:Hid (okw (dg p ++ List.replicate j 0)∧(dg p ++ List.replicate j 0).length=n'∧val (dg p ++ List.replicate j 0)=p):=hd_ ⟨Ho'.out.2,Ho'.out.len,by rw[i0_,a8_]⟩
   have hqm:Hid (okw (dg q)∧(dg q).length=m∧val (dg q)=q):=hd_ ⟨cx_ _,Hb.out.len,a8_ _⟩
   have hmn:m≤n':=by omega
   generalize dg p ++ List.replicate j 0=x at Ho' hx
   have hd:decide (n' < m)=false:=decide_eq_false hlt
   clear Hnj Ho hB hlt
   go_wp2
   go_loopw [5,19] (fun cv iv w2=>∃(k c:Nat) (o:List Nat),k≤m∧iv=.int .i64 k∧cv=.int .u32 (c:Int)∧c≤1∧Hid (o.length=k)∧Hid (val o+4294967296 ^ k * c=low x k+low (dg q) k)∧Hid (Own w2 w0.heap.size g' n' cap2 (o ++ x.drop k))∧Below w0.heap.size w0 w2) (fun _ iv _=>m - (intOf iv).toNat)
   case atStart=>exact⟨0,0,[],by omega,rfl,rfl,by omega,hd_ rfl,hd_ (by rw[ds_,ds_];rfl),hd_ (by simpa using Ho'.out),hB'⟩
   case round=>
    clear Ho' hB'
    obtain⟨k,c,o,hk,rfl,rfl,hc,Hol,Hv,HO,hB2⟩:=hrel
    by_cases hlt:k < m
    ·obtain⟨bb,ob,rfl,hcb⟩:=(Hb.out.later hB2).at (by omega)
     have hcbk:=hcb k hlt
     have hcell:=HO.out.cell (k:=k) (by omega)
     rw[i3_ _ _ _ Hol.out] at hcell
     have hfro:=HO.out.1.frozenAt k
     have hyl:=b0_ hqm.out.1 k
     have hxl:=b0_ hx.out.1 k
     obtain⟨xk,hxk⟩:∃xk,xk=atw x k:=⟨_,rfl⟩
     obtain⟨yk,hyk⟩:∃yk,yk=atw (dg q) k:=⟨_,rfl⟩
     rw[←hxk] at hxl hcell
     rw[←hyk] at hyl hcbk
     have Hxk:=hd_ hxk
     have Hyk:=hd_ hyk
     have hk1:(k:Int) < (n':Int):=by omega
     have hb:=HO.out.base
     clear hxk hyk hcb
     go_wp2_with (go_at_call 168;(with_reducible refine (f6_ xk yk c _ (by omega) (by omega) (by omega)).mono ?_);rintro e w' ⟨r,z,rfl,hz,hr,Hs,rfl⟩)
     go_roundw
     case rel=>exact⟨k+1,z,o ++ [r],by omega,by go_num,rfl,hz,hd_ (by have:=Hol.out;simp;omega),hd_ (ql_ Hol.out Hv.out hr (by rw[Hs.out,Hxk.out,Hyk.out])),hd_ (by have h:=HO.out.set k r hr;rwa [jf_ o x k r Hol.out (by rw[hx.out.2.1];omega)] at h),hB2.setCell hb.1 _⟩
     case measure=>simp[intOf];omega
    ·obtain rfl:k=m:=by omega
     go_wp2
     go_loopw [5,8] (fun cv iv w3=>∃(t c:Nat) (o:List Nat),k≤t∧t≤n'∧iv=.int .i64 t∧cv=.int .u32 (c:Int)∧c≤1∧Hid (o.length=t)∧Hid (val o+4294967296 ^ t * c=low x t+low (dg q) t)∧Hid (Own w3 w0.heap.size g' n' cap2 (o ++ x.drop t))∧Below w0.heap.size w0 w3) (fun _ iv _=>n' - (intOf iv).toNat)
     case atStart=>exact⟨k,c,o,by omega,by omega,rfl,rfl,hc,Hol,Hv,HO,hB2⟩
     case round=>
      clear HO hB2 Hv Hol hc
      obtain⟨t,c,o,hkt,htn,rfl,rfl,hc,Hol,Hv,HO,hB2⟩:=hrel
      by_cases hc0:c=0
      ·subst hc0
       have Hfin:=hd_ (rk_ (x:=o ++ x.drop t) (p:=p) (q:=q) HO.out.2 (by rw[add_stop Hol.out (by rw[hqm.out.2.1];exact hkt) (by simpa using Hv.out),hx.out.2.2,hqm.out.2.2]) (by rw[HO.out.len];exact hge.out))
       by_cases hlt:t < n'
       ·go_wp2
        go_ret
        exact⟨g',n',cap2,rfl,hd_ (by rw[←Hfin.out];exact HO.out),hB2⟩
       ·go_wp2
        go_ret
        exact⟨g',n',cap2,rfl,hd_ (by rw[←Hfin.out];exact HO.out),hB2⟩
      ·have Hc1:Hid (c=1):=hd_ (by omega)
       have hcp:0 < c:=by omega
       have hcpi:(0:Int) < (c:Int):=by omega
       clear hc0
       by_cases hlt:t < n'
       ·have hcell:=HO.out.cell (k:=t) (by omega)
        rw[i3_ _ _ _ Hol.out] at hcell
        have hfro:=HO.out.1.frozenAt t
        have hxl:=b0_ hx.out.1 t
        obtain⟨xk,hxk⟩:∃xk,xk=atw x t:=⟨_,rfl⟩
        rw[←hxk] at hxl hcell
        have Hxk:=hd_ hxk
        have hyk:Hid (atw (dg q) t=0):=hd_ (lj_ (by rw[hqm.out.2.1];exact hkt))
        have hk1:(t:Int) < (n':Int):=by omega
        have hb:=HO.out.base
        clear hxk
        go_wp2_with (go_at_call 168;(with_reducible refine (hv_ xk c _ (by omega) (by omega)).mono ?_);rintro e w' ⟨r,z,rfl,hz,hr,Hs,rfl⟩)
        go_roundw
        case rel=>exact⟨t+1,z,o ++ [r],by omega,by omega,by go_num,rfl,hz,hd_ (by have:=Hol.out;simp;omega),hd_ (ql_ Hol.out Hv.out hr (by rw[Hs.out,Hxk.out,hyk.out])),hd_ (by have h:=HO.out.set t r hr;rwa [jf_ o x t r Hol.out (by rw[hx.out.2.1];omega)] at h),hB2.setCell hb.1 _⟩
        case measure=>simp[intOf];omega
       ·obtain rfl:t=n':=by omega
        have hdrop:x.drop t=[]:=List.drop_eq_nil_of_le (by rw[hx.out.2.1];omega)
        rw[hdrop,List.append_nil] at HO
        have Hfin:=hd_ (rc_ (p:=p) (q:=q) HO.out.2 Hol.out (by have hv:=Hv.out;rw[Hc1.out] at hv;rw[hv,e5_ (by rw[hx.out.2.1];omega),e5_ (by rw[hqm.out.2.1];exact hkt),hx.out.2.2,hqm.out.2.2]))
        have hbase:w0.heap.size≤wr.heap.size:=hB2.size
        clear hdrop
        go_wp2_with (at_builtin;refine wpList_append_own _ rfl _ _ 25 rfl w0.heap.size 81 i0 (.int .u32 0) 1 4 Tryz.underlying25 hi hz0 hz1 hz2 rfl (by decide) _ t _ rfl (HO.out.1.alloc _) ⟨_,0,none⟩ 1 1 (cp_ [c]) rfl rfl (Wd.lit1 _ 81 (x:=c) (by omega)).cells (d3_ _) (by unfold maxLen;omega) (by omega) (by simp;omega) ?_)
        intro v' w1 hown hgrow _
        obtain⟨g2,cap3,rfl,HO2⟩:=Own.push (r:=c) hown HO.out.2 (by omega)
        have HO':=hd_ HO2
        have hb:=HO.out.base
        have hB1:Below w0.heap.size w0 w1:=(hB2.alloc hbase _).grown hgrow (by simp;omega) (by intro k hk;simp[Value.ownBlock] at hk;omega)
        clear HO2 hown hgrow
        go_wp2
        go_ret
        exact⟨g2,t+1,cap3,rfl,hd_ (by have h:=HO'.out;rw[Hc1.out] at h;rwa [Hfin.out] at h),hB1⟩
theorem nat_add(a:OA_)(n cap:Nat)(ls:List (List Nat))(w:World)(h:Wds w a n cap ls)(hn:n≤1000000)(hw:dz_ ls≤1048576000000) :
 Calls Tryz.prog 130 #[.slice a n cap] w (Lst (dg (vals ls)) w):=by
 obtain⟨i0,hi,hz0,hz1,hz2⟩:=info_parts fw_
 obtain⟨hb1,hb2⟩:=h.bound
 have H:=hd_ h
 clear h
 go_enter Tryz.func130,Tryz.ntmps130
 go_wp2_with fail
 refine (ok_ _ _ _ _ _ H.out hw).mono ?_
 rintro e w' ⟨N,rfl,hN,rfl⟩
 go_wp2_with (at_make;refine wpList_make_own _ rfl _ _ 25 rfl w.heap.size 81 i0 (.int .u32 0) 1 Tryz.underlying25 hi hz0 hz1 .i64 .i64 _ (N+1) rfl rfl (by omega) (by rw[hz2];omega) (by unfold maxLen;omega) (Nat.le_refl _) ?_;intro w1 hown1 hgrow1)
 have HO1:Hid (Own w1 w.heap.size w.heap.size 0 (N+1) []):=hd_ ⟨hown1,h1_⟩
 have hB1:Below w.heap.size w w1:=(Below.refl _ _).grown hgrow1 (Nat.le_refl _) (fun k hk=>by cases hk)
 clear hown1 hgrow1
 go_loopw [3,12] (fun s i wr=>∃k g m cap2:Nat,k≤n∧i=.int .i64 k∧s=.slice (some ⟨g,0,none⟩) m cap2∧m≤1048576000001∧Hid (Own wr w.heap.size g m cap2 (dg (vals (ls.take k))))∧Below w.heap.size w wr) (fun _ i _=>n - (intOf i).toNat)
 case atStart=>exact⟨0,_,0,_,by omega,rfl,rfl,by omega,hd_ (by simpa [vals,co_] using HO1.out),hB1⟩
 case round=>
  clear HO1 hB1
  obtain⟨k,g,m,cap2,hk,rfl,rfl,hm,HO,hB⟩:=hrel
  by_cases hlt:k < n
  ·obtain⟨b,off,rfl,a',n',c',hc0,hwd⟩:=H.out.at hlt
   have hc:=cell_later hB hc0
   have hn':n'≤dz_ ls:=by rw[←hwd.len];exact nn_ _ _ (by rw[H.out.len];exact hlt)
   have HW:=hd_ hwd
   have HW2:=hwd.l_ hB
   clear hwd hc0
   have hk1:(k:Int) < (n:Int):=by omega
   go_wp2_with fail
   refine (d1_ _ _ _ _ _ HW2.out).mono ?_
   rintro e w' ⟨m2,rfl,Hm,hmn,HT,rfl⟩
   have HT0:Hid (Wd w a' m2 c' (dg (val (ls.getD k [])))):=hd_ (by rw[Hm.out];exact HW.out.trim)
   go_wp2_with fail
   refine (nat_addTo w _ g m cap2 _ _ _ _ _ HO.out hB HT0.out (by omega) (by omega)).mono ?_
   rintro e w2 ⟨g2,m3,cap3,rfl,HO2,hB2⟩
   have hv:=vals_take ls k (by rw[H.out.len];exact hlt)
   rw[←hv] at HO2
   have hm3:m3≤1048576000001:=by
    have h1:=HO2.out.len
    have h2:=oh_ (ls:=ls.take (k+1)) (fun l hl=>H.out.oks l (List.mem_of_mem_take hl)) (by rw[List.length_take];have:=H.out.len;omega)
    have h3:=mv_ ls (k+1)
    omega
   clear HO HT HT0 HW HW2 hB hv Hm hmn
   go_wp2
   go_roundw
   case rel=>exact⟨k+1,g2,m3,cap3,by omega,by go_num,rfl,hm3,HO2,hB2⟩
   case measure=>simp[intOf];omega
  ·have hkn:k=n:=by omega
   have hfin:dg (vals (ls.take k))=dg (vals ls):=by rw[List.take_of_length_le (by rw[H.out.len];omega)]
   rw[hfin] at HO
   clear hkn hfin
   go_wp2
   go_ret
   exact⟨_,m,cap2,rfl,HO.out.wd,hB⟩
theorem qb_(a:OA_)(n cap:Nat)(la:List Nat)(b:OA_)(m cap':Nat)(lb:List Nat)(w:World)(ha:Wd w a n cap la)(hb:Wd w b m cap' lb)(hn:n≤17592183947264)(hle:Hid (val lb≤val la)) :
 Calls Tryz.prog 157 #[.slice a n cap,.slice b m cap'] w (Lst (dg (val la - val lb)) w):=by
 obtain⟨hb1,hb2⟩:=ha.bound
 obtain⟨hb3,hb4⟩:=hb.bound
 have Ha:=hd_ ha
 have Hb:=hd_ hb
 clear ha hb
 go_enter Tryz.func157,Tryz.ntmps157
 go_wp2_with fail
 refine (d1_ _ _ _ _ _ Ha.out).mono ?_
 rintro e w' ⟨p,rfl,Hp,hp,HA,rfl⟩
 go_wp2_with fail
 refine (d1_ _ _ _ _ _ Hb.out).mono ?_
 rintro e w' ⟨q,rfl,Hq,hq,HB,rfl⟩
 have hqp:q≤p:=by rw[Hp.out,Hq.out];exact ax_ hle.out
 go_wp2_with fail
 refine (jd_ _ _ _ _ _ HA.out (by omega)).mono ?_
 rintro e w1 ⟨g,r,rfl,Hr,Hown,hB1⟩
 rw[a8_] at Hr Hown
 have HO:Hid (Own w1 w.heap.size g r r (dg (val la))):=hd_ ⟨Hown.out,cx_ _⟩
 have hrp:r=p:=by rw[Hr.out,Hp.out]
 clear Hown Hr
 subst hrp
 have hx:Hid (okw (dg (val la))∧(dg (val la)).length=r∧val (dg (val la))=val la):=hd_ ⟨cx_ _,Hp.out.symm,a8_ _⟩
 have hy:Hid (okw (dg (val lb))∧(dg (val lb)).length=q∧val (dg (val lb))=val lb):=hd_ ⟨cx_ _,Hq.out.symm,a8_ _⟩
 clear Ha HA Hb Hp Hq
 generalize dg (val la)=x at *
 generalize dg (val lb)=y at *
 go_wp2
 go_loopw [6,18] (fun cv iv w2=>∃(k c:Nat) (o:List Nat),k≤q∧iv=.int .i64 k∧cv=.int .u32 (c:Int)∧c≤1∧Hid (o.length=k)∧Hid (low x k+4294967296 ^ k * c=low y k+val o)∧Hid (Own w2 w.heap.size g r r (o ++ x.drop k))∧Below w.heap.size w w2) (fun _ iv _=>q - (intOf iv).toNat)
 case atStart=>exact⟨0,0,[],by omega,rfl,rfl,by omega,hd_ rfl,hd_ (by rw[ds_,ds_];rfl),hd_ (by simpa using HO.out),hB1⟩
 case round=>
  clear HO hB1
  obtain⟨k,c,o,hk,rfl,rfl,hc,Hol,Hv,HO,hB2⟩:=hrel
  by_cases hlt:k < q
  ·obtain⟨bb,ob,rfl,hcb⟩:=(HB.out.later hB2).at (by omega)
   have hcbk:=hcb k hlt
   have hcell:=HO.out.cell (k:=k) (by omega)
   rw[i3_ _ _ _ Hol.out] at hcell
   have hfro:=HO.out.1.frozenAt k
   have hyl:=b0_ hy.out.1 k
   have hxl:=b0_ hx.out.1 k
   obtain⟨xk,hxk⟩:∃xk,xk=atw x k:=⟨_,rfl⟩
   obtain⟨yk,hyk⟩:∃yk,yk=atw y k:=⟨_,rfl⟩
   rw[←hxk] at hxl hcell
   rw[←hyk] at hyl hcbk
   have Hxk:=hd_ hxk
   have Hyk:=hd_ hyk
   have hk1:(k:Int) < (r:Int):=by omega
   have hb:=HO.out.base
   clear hxk hyk hcb
   go_wp2_with (go_at_call 169;(with_reducible refine (ey_ xk yk c _ (by omega) (by omega) (by omega)).mono ?_);rintro e w' ⟨s,z,rfl,hz,hs,Hs,rfl⟩)
   go_roundw
   case rel=>exact⟨k+1,z,o ++ [s],by omega,by go_num,rfl,hz,hd_ (by have:=Hol.out;simp;omega),hd_ (p2_ Hol.out Hv.out (by rw[←Hxk.out,←Hyk.out];exact Hs.out)),hd_ (by have h:=HO.out.set k s hs;rwa [jf_ o x k s Hol.out (by rw[hx.out.2.1];omega)] at h),hB2.setCell hb.1 _⟩
   case measure=>simp[intOf];omega
  ·obtain rfl:k=q:=by omega
   go_wp2
   go_loopw [6,9] (fun cv iv w3=>∃(t c:Nat) (o:List Nat),k≤t∧t≤r∧iv=.int .i64 t∧cv=.int .u32 (c:Int)∧c≤1∧Hid (o.length=t)∧Hid (low x t+4294967296 ^ t * c=low y t+val o)∧Hid (Own w3 w.heap.size g r r (o ++ x.drop t))∧Below w.heap.size w w3) (fun _ iv _=>r - (intOf iv).toNat)
   case atStart=>exact⟨k,c,o,by omega,by omega,rfl,rfl,hc,Hol,Hv,HO,hB2⟩
   case round=>
    clear HO hB2 Hv Hol hc
    obtain⟨t,c,o,hkt,htn,rfl,rfl,hc,Hol,Hv,HO,hB2⟩:=hrel
    by_cases hc0:c=0
    ·subst hc0
     have hfin:val (o ++ x.drop t)=val la - val lb:=by
      have:=sub_stop (la:=x) (lb:=y) Hol.out (by rw[hy.out.2.1];exact hkt) (by simpa using Hv.out)
      rw[hx.out.2.2,hy.out.2.2] at this
      omega
     have Hfin:=hd_ hfin
     clear hfin
     by_cases hlt:t < r
     ·go_wp2_with fail
      refine (d1_ _ _ _ _ _ HO.out.wd).mono ?_
      rintro e w' ⟨s,rfl,Hs,hs,HT,rfl⟩
      rw[Hfin.out] at HT
      go_wp2
      go_ret
      exact⟨_,s,_,rfl,HT.out,hB2⟩
     ·go_wp2_with fail
      refine (d1_ _ _ _ _ _ HO.out.wd).mono ?_
      rintro e w' ⟨s,rfl,Hs,hs,HT,rfl⟩
      rw[Hfin.out] at HT
      go_wp2
      go_ret
      exact⟨_,s,_,rfl,HT.out,hB2⟩
    ·have Hc1:Hid (c=1):=hd_ (by omega)
     have hcp:0 < c:=by omega
     have hcpi:(0:Int) < (c:Int):=by omega
     clear hc0
     by_cases hlt:t < r
     ·have hcell:=HO.out.cell (k:=t) (by omega)
      rw[i3_ _ _ _ Hol.out] at hcell
      have hfro:=HO.out.1.frozenAt t
      have hxl:=b0_ hx.out.1 t
      obtain⟨xk,hxk⟩:∃xk,xk=atw x t:=⟨_,rfl⟩
      rw[←hxk] at hxl hcell
      have Hxk:=hd_ hxk
      have Hyk:Hid (atw y t=0):=hd_ (lj_ (by rw[hy.out.2.1];exact hkt))
      have hk1:(t:Int) < (r:Int):=by omega
      have hb:=HO.out.base
      clear hxk
      go_wp2_with (go_at_call 169;(with_reducible refine (mq_ xk c _ (by omega) (by omega)).mono ?_);rintro e w' ⟨s,z,rfl,hz,hs,Hs,rfl⟩)
      go_roundw
      case rel=>exact⟨t+1,z,o ++ [s],by omega,by omega,by go_num,rfl,hz,hd_ (by have:=Hol.out;simp;omega),hd_ (p2_ Hol.out Hv.out (by rw[←Hxk.out,Hyk.out];exact Hs.out)),hd_ (by have h:=HO.out.set t s hs;rwa [jf_ o x t s Hol.out (by rw[hx.out.2.1];omega)] at h),hB2.setCell hb.1 _⟩
      case measure=>simp[intOf];omega
     ·exfalso
      obtain rfl:t=r:=by omega
      have h1:=Hv.out
      have h2:=fu_ (okw_append.1 HO.out.2).1
      have h3:=hle.out
      rw[Hc1.out,e5_ (by rw[hx.out.2.1];omega),e5_ (by rw[hy.out.2.1];exact hkt),hx.out.2.2,hy.out.2.2] at h1
      rw[Hol.out] at h2
      omega
theorem nat_gap(a:OA_)(n cap:Nat)(la:List Nat)(b:OA_)(m cap':Nat)(lb:List Nat)(w:World)(ha:Wd w a n cap la)(hb:Wd w b m cap' lb)(hn:n≤17592183947264)(hm:m≤17592183947264) :
 Calls Tryz.prog 131 #[.slice a n cap,.slice b m cap'] w (Lst2 (dg (val la - val lb+(val lb - val la))) (.int .i64 (cmpI (val la) (val lb))) w):=by
 have Ha:=hd_ ha
 have Hb:=hd_ hb
 clear ha hb
 go_enter Tryz.func131,Tryz.ntmps131
 go_wp2_with fail
 refine (nat_cmp _ _ _ _ _ _ _ _ _ Ha.out Hb.out).mono ?_
 rintro e w1 ⟨rfl,hB1⟩
 have Ha1:=Ha.l_ hB1
 have Hb1:=Hb.l_ hB1
 by_cases hlt:val la < val lb
 ·have hc:cmpI (val la) (val lb) < 0:=by rw[ig_ hlt];omega
  have hv:val la - val lb+(val lb - val la)=val lb - val la:=by omega
  have Hv:=hd_ hv
  have hle:Hid (val la≤val lb):=hd_ (by omega)
  clear hlt hv
  generalize cmpI (val la) (val lb)=c at *
  go_wp2_with fail
  refine (qb_ _ _ _ _ _ _ _ _ _ Hb1.out Ha1.out hm hle).mono ?_
  rintro e w2 ⟨a2,n2,c2,rfl,h2,hB2⟩
  have H2:=hd_ h2
  clear h2
  go_wp2
  go_ret2
  exact⟨_,_,_,rfl,by rw[Hv.out];exact H2.out,ab_ hB1 hB2⟩
 ·have hc:¬cmpI (val la) (val lb) < 0:=by unfold cmpI;split <;> (try split) <;> omega
  have hv:val la - val lb+(val lb - val la)=val la - val lb:=by omega
  have Hv:=hd_ hv
  have hle:Hid (val lb≤val la):=hd_ (by omega)
  clear hlt hv
  generalize cmpI (val la) (val lb)=c at *
  go_wp2_with fail
  refine (qb_ _ _ _ _ _ _ _ _ _ Ha1.out Hb1.out hn hle).mono ?_
  rintro e w2 ⟨a2,n2,c2,rfl,h2,hB2⟩
  have H2:=hd_ h2
  clear h2
  go_wp2
  go_ret2
  exact⟨_,_,_,rfl,by rw[Hv.out];exact H2.out,ab_ hB1 hB2⟩
theorem natSaid:NatSaid where
 norm:=fun a n cap l w h hn=>(jd_ a n cap l w h hn).mono fun _ _ ⟨_,_,he,_,HO,hB⟩=>⟨_,_,_,he,Wd.own HO.out (cx_ _),hB⟩
 of:=nat_of
 small:=fun a n cap l w h _=>nat_small a n cap l w h
 zero:=fun a n cap l w h _=>nat_zero a n cap l w h
 cmp:=fun a n cap la b m cap' lb w ha hb _ _=>nat_cmp a n cap la b m cap' lb w ha hb
 add:=nat_add
 gap:=nat_gap
theorem hq_(x y c d:Nat)(w:World)(hx:x < 4294967296)(hy:y < 4294967296)(hc:c < 4294967296)(hd:d < 4294967296):Calls Tryz.prog 134 #[.int .u32 (x:Int),.int .u32 (y:Int),.int .u32 (c:Int),.int .u32 (d:Int)] w fun e w'=>
 ∃z r:Nat,e=.returned (.tuple #[.int .u32 (z:Int),.int .u32 (r:Int)])∧z < 4294967296∧r < 4294967296∧Hid (r+4294967296 * z=x * y+(c+d))∧w=w':=
 (qr_ x y c d w (by omega) (by omega) (by omega) (by omega) (by omega) (by omega) (by omega) (by omega)).mono fun e w' ⟨he,hw⟩=>by
   have h1:x * y≤4294967295 * 4294967295:=Nat.mul_le_mul (by omega) (by omega)
   have e0:(x:Int) * (y:Int)=((x * y:Nat):Int):=by simp
   rw[e0] at he
   generalize x * y=p at *
   exact⟨(p+(c+d)) / 4294967296,(p+(c+d)) % 4294967296,by rw[he,show ((p:Int)+c+d) / 4294967296=(((p+(c+d)) / 4294967296:Nat):Int) by omega,show ((p:Int)+c+d) % 4294967296=(((p+(c+d)) % 4294967296:Nat):Int) by omega],by omega,by omega,hd_ (by omega),hw⟩
theorem l1_(x y c:Nat)(w:World)(hx:x < 4294967296)(hy:y < 4294967296)(hc:c < 4294967296):Calls Tryz.prog 134 #[.int .u32 (x:Int),.int .u32 (y:Int),.int .u32 (c:Int),.int .u32 0] w fun e w'=>
 ∃z r:Nat,e=.returned (.tuple #[.int .u32 (z:Int),.int .u32 (r:Int)])∧z < 4294967296∧r < 4294967296∧Hid (r+4294967296 * z=x * y+c)∧w=w':=
 hq_ x y c 0 w hx hy hc (by omega)
theorem l4_(a:OA_)(na cap:Nat)(la:List Nat)(b:OA_)(nb cap':Nat)(lb:List Nat)(w0:World)(ha:Wd w0 a na cap la)(hb:Wd w0 b nb cap' lb)(hna:na≤4194304000000)(hnb:nb≤4194304000000) :
 Calls Tryz.prog 90 #[.slice a na cap,.slice b nb cap'] w0 (Lst (dg (val la * val lb)) w0):=by
 obtain⟨i0,hi,hz0,hz1,hz2⟩:=info_parts fw_
 have Hb0:=hd_ hb
 have Hla:Hid ((dg (val la)).length≤na):=hd_ (by rw[←ha.len];exact cs_ ha.ok)
 have Hlb:Hid ((dg (val lb)).length≤nb):=hd_ (by rw[←hb.len];exact cs_ hb.ok)
 go_enter Tryz.func90,Tryz.ntmps90
 go_wp2_with fail
 refine (natSaid.norm _ _ _ _ _ ha (by omega)).mono ?_
 rintro e w1 ⟨a,n,c1,rfl,h1,b1⟩
 have H1:=hd_ h1
 clear ha hb h1
 go_wp2_with fail
 refine (natSaid.norm _ _ _ _ _ (Hb0.out.later b1) (by omega)).mono ?_
 rintro e w ⟨b,m,c2,rfl,h2,b2⟩
 have Ha:=H1.l_ b2
 have Hb:=hd_ h2
 have hn:n≤4194304000000:=by have h1:=H1.out.len;have h2:=Hla.out;omega
 have hm:m≤4194304000000:=by have h1:=Hb.out.len;have h2:=Hlb.out;omega
 have HB0:=hd_ (ab_ b1 b2)
 have Hv:Hid (val (dg (val la)) * val (dg (val lb))=val la * val lb):=hd_ (by rw[a8_,a8_])
 clear H1 Hb0 h2 b1 b2 Hla Hlb hna hnb
 generalize dg (val la)=A at *
 generalize dg (val lb)=B at *
 obtain⟨N,hN⟩:∃N:Nat,(n:Int)+(m:Int)=(N:Int):=⟨n+m,by omega⟩
 have HN:Hid (N=n+m):=hd_ (by omega)
 have hNb:N≤8388608000000:=by omega
 go_wp2_with (at_make;refine c1_ _ rfl _ _ 25 rfl w.heap.size 81 i0 (.int .u32 0) Tryz.underlying25 hi hz0 hz1 rfl .i64 .i64 _ _ N N rfl rfl rfl rfl (Nat.le_refl _) (by rw[hz2];omega) (by unfold maxLen;omega) (Nat.le_refl _) ?_;intro w1 hown1 hgrow1)
 rw[ep_] at hown1
 have HO1:Hid (Own w1 w.heap.size w.heap.size N N (List.replicate N 0)):=hd_ ⟨hown1,hs_ N⟩
 have hB1:Below w.heap.size w w1:=(Below.refl _ _).grown hgrow1 (Nat.le_refl _) (fun k hk=>by cases hk)
 clear hown1 hgrow1
 go_loopw [23] (fun iv wr=>∃(i:Nat) (P:List Nat),i≤n∧iv=.int .i64 (i:Int)∧Hid (RowAt A B P m i)∧Hid (Own wr w.heap.size w.heap.size N N P)∧Below w.heap.size w wr) (fun iv _=>n - (intOf iv).toNat)
 case atStart=>exact⟨0,List.replicate N 0,by omega,rfl,hd_ (row_start _ _ _ _),HO1,hB1⟩
 case round=>
  clear HO1 hB1
  obtain⟨i,P,hin,rfl,HR,HO,hB⟩:=hrel
  by_cases hlt:i < n
  ·have hii:(i:Int) < (n:Int):=by omega
   obtain⟨ba,oa,rfl,hca⟩:=(Ha.out.later hB).at (by omega)
   have hcai:=hca i hlt
   have hxw:=b0_ Ha.out.ok i
   obtain⟨x,hxx⟩:∃x,x=atw A i:=⟨_,rfl⟩
   rw[←hxx] at hxw hcai
   have Hx:=hd_ hxx
   clear hca hxx
   go_wp2
   go_loopw [8,30] (fun sv jv wr=>∃(j c:Nat) (P:List Nat),j≤m∧jv=.int .i64 (j:Int)∧sv=.int .u32 (c:Int)∧c < 4294967296∧Hid (m6_ A B P m i j c)∧Hid (Own wr w.heap.size w.heap.size N N P)∧Below w.heap.size w wr) (fun _ jv _=>m - (intOf jv).toNat)
   case atStart=>exact⟨0,0,P,by omega,rfl,rfl,by omega,hd_ (q8_ HR.out),HO,hB⟩
   case round=>
    clear HO hB HR hcai
    obtain⟨j,c,P,hjm,rfl,rfl,hc,HC,HO,hB⟩:=hrel
    by_cases hjl:j < m
    ·have hji:(j:Int) < (m:Int):=by omega
     obtain⟨bb,ob,rfl,hcb⟩:=(Hb.out.later hB).at (by omega)
     have hcbj:=hcb j hjl
     have hyw:=b0_ Hb.out.ok j
     obtain⟨y,hyy⟩:∃y,y=atw B j:=⟨_,rfl⟩
     rw[←hyy] at hyw hcbj
     have Hy:=hd_ hyy
     obtain⟨q,hq⟩:∃q:Nat,(i:Int)+(j:Int)=(q:Int):=⟨i+j,by omega⟩
     have Hq:Hid (q=i+j):=hd_ (by omega)
     have hqN:q < N:=by have:=HN.out;omega
     have hqi:(q:Int) < (N:Int):=by omega
     have hcell:=HO.out.cell (k:=q) hqN
     have hfro:=HO.out.1.frozenAt q
     have huw:=b0_ HO.out.2 q
     obtain⟨u,huu⟩:∃u,u=atw P q:=⟨_,rfl⟩
     rw[←huu] at huw hcell
     have Hu:=hd_ huu
     have hb:=HO.out.base
     clear hcb hyy huu
     go_wp2_with fail
     refine (hq_ x y u c _ hxw hyw huw hc).mono ?_
     rintro e w' ⟨z,r,rfl,hz,hr,Hs,rfl⟩
     have HOs:=hd_ (HO.out.set q r hr)
     have HBs:=hd_ (hB.setCell (p:=⟨w.heap.size,q,none⟩) hb.1 (.int .u32 (r:Int)))
     go_wp2
     go_roundw
     case rel=>
      exact⟨j+1,z,P.set q r,by omega,by go_num,rfl,hz,hd_ (by
       have h1:=HC.out
       have h2:=HN.out
       have h3:=HO.out.len
       obtain rfl:=Hq.out
       exact cell_step h1 hjl (by omega) (by rw[←Hx.out,←Hy.out,←Hu.out];exact Hs.out)),HOs,HBs.out⟩
     case measure=>simp[intOf];omega
    ·obtain rfl:j=m:=by omega
     obtain⟨q,hq⟩:∃q:Nat,(i:Int)+(j:Int)=(q:Int):=⟨i+j,by omega⟩
     have Hq:Hid (q=i+j):=hd_ (by omega)
     have hqN:q < N:=by have:=HN.out;omega
     have hqi:(q:Int) < (N:Int):=by omega
     have hcell:=HO.out.cell (k:=q) hqN
     have hfro:=HO.out.1.frozenAt q
     generalize atw P q=u at hcell
     have hb:=HO.out.base
     have HOs:=hd_ (HO.out.set q c hc)
     have HBs:=hd_ (hB.setCell (p:=⟨w.heap.size,q,none⟩) hb.1 (.int .u32 (c:Int)))
     go_wp2
     go_roundw
     case rel=>
      exact⟨i+1,P.set q c,by omega,by go_num,hd_ (by
       have h1:=HC.out
       have h2:=HN.out
       have h3:=HO.out.len
       obtain rfl:=Hq.out
       exact row_next h1 Hb.out.len (by omega)),HOs,HBs.out⟩
     case measure=>simp[intOf];omega
  ·obtain rfl:i=n:=by omega
   have Hw:Hid (val P=val la * val lb):=hd_ (by rw[←Hv.out];exact row_end HR.out Ha.out.len)
   go_wp2_with fail
   refine (natSaid.norm _ _ _ _ _ HO.out.wd (by omega)).mono ?_
   rintro e w' ⟨a',n',c',rfl,hwd,hbel⟩
   rw[Hw.out] at hwd
   have HWD:=hd_ hwd
   clear hwd
   go_wp2
   go_ret
   exact⟨_,_,_,rfl,HWD.out,ab_ HB0.out (ab_ hB hbel)⟩
theorem ha_{w:World}{A:Nat}{x y:Value}{t:TypeId}(h1:w.heap[A]? = some (.cells #[x,y] t (0,0))):w.cell? ⟨A,0,none⟩=some x∧w.cell? ⟨A,1,none⟩=some y:=⟨ad_ h1 0,ad_ h1 1⟩
theorem r3_{w:World}{A g:Nat}{x y:Value}{t:TypeId}(h1:w.heap[A]? = some (.cells #[x,y] t (0,0)))(hA:A≠g)(p q:Value) :
 ((w.setCell ⟨g,0,none⟩ p).setCell ⟨g,1,none⟩ q).cell? ⟨A,0,none⟩=some x∧((w.setCell ⟨g,0,none⟩ p).setCell ⟨g,1,none⟩ q).cell? ⟨A,1,none⟩=some y:=ha_ (b5_ (b5_ h1 hA 0 p) hA 1 q)
theorem dr_(neg:Bool)(a:OA_)(n cap v:Nat)(w:World)(h:Wd w a n cap (dg v))(hn:n≤17592183947264):Calls Tryz.prog 129 #[.bool neg,.slice a n cap] w (LstZ (zval neg v) w):=by
 have HA:Hid ((zval neg v).natAbs=v):=hd_ (d8_ _ _)
 have H:=hd_ h
 clear h
 cases neg with
 | false=>
   have HZ:Hid (zneg (zval false v)=false):=hd_ (by rw[p4_];rfl)
   have HG:=hd_ (ao_ w #[.bool false,.slice a n cap] 42)
   go_enter Tryz.func129,Tryz.ntmps129
   go_wp2
   refine bodyPost_ret (results_cell_row Tryz.results129 _ _ (w.heap.size) 42 #[.bool false,.slice a n cap] (0,0) _ rfl HG.out Tryz.underlying42 rfl (by kernel_rfl)) rfl ?_
   exact⟨a,n,cap,by rw[HZ.out];rfl,by rw[HA.out];exact H.out.later (aa_ _ _),aa_ _ _⟩
 | true=>
   go_enter Tryz.func129,Tryz.ntmps129
   go_wp2_with fail
   refine (natSaid.zero _ _ _ _ _ (H.out.later (aa_ _ _)) hn).mono ?_
   rintro e w1 ⟨rfl,b1⟩
   rw[a8_]
   have hR:=qk_ w w1 _ _ b1
   have r0:=ad_ hR 0
   have r1:=ad_ hR 1
   have f0:=ah_ hR 0
   have f1:=ah_ hR 1
   simp only[List.getElem?_toArray,List.getElem?_cons_zero,List.getElem?_cons_succ] at r0 r1
   have HR:=hd_ hR
   have HB:=hd_ (ab_ (aa_ _ _) b1)
   have H1:=hd_ (H.out.later HB.out)
   clear hR b1
   by_cases hv:v=0
   ·have HZ:Hid (zneg (zval true v)=false):=hd_ (by rw[hv];rfl)
    rw[decide_eq_true hv]
    clear hv
    have HG:=hd_ (bk_ HR.out (.bool false) (.slice a n cap))
    have HS:=hd_ (H1.out.stored2 HR.out false (.slice a n cap))
    have HB2:=hd_ (ay_ HB.out (show w.heap.size≤w.heap.size from Nat.le_refl _) (.bool false) (.slice a n cap))
    go_wp2
    refine bodyPost_ret (results_cell_row Tryz.results129 _ _ (w.heap.size) 42 #[.bool false,.slice a n cap] (0,0) _ rfl HG.out Tryz.underlying42 rfl (by kernel_rfl)) rfl ?_
    exact⟨a,n,cap,by rw[HZ.out];rfl,by rw[HA.out];exact HS.out,HB2.out⟩
   ·have HZ:Hid (zneg (zval true v)=true):=hd_ (by rw[p4_,decide_eq_true hv];rfl)
    rw[decide_eq_false hv]
    clear hv
    have HG:=hd_ (bk_ HR.out (.bool true) (.slice a n cap))
    have HS:=hd_ (H1.out.stored2 HR.out true (.slice a n cap))
    have HB2:=hd_ (ay_ HB.out (show w.heap.size≤w.heap.size from Nat.le_refl _) (.bool true) (.slice a n cap))
    go_wp2
    refine bodyPost_ret (results_cell_row Tryz.results129 _ _ (w.heap.size) 42 #[.bool true,.slice a n cap] (0,0) _ rfl HG.out Tryz.underlying42 rfl (by kernel_rfl)) rfl ?_
    exact⟨a,n,cap,by rw[HZ.out];rfl,by rw[HA.out];exact HS.out,HB2.out⟩
theorem n4_(x:Int)(w:World):Calls Tryz.prog 149 #[.int .i64 x] w (fun e w'=>e=.returned (.bool false)∧w'=w):=by
 have hx:(x == x)=true:=by simp
 go_enter Tryz.func149,Tryz.ntmps149
 go_wp2
 go_ret
 exact⟨rfl,rfl⟩
theorem g0_(x y:Int)(w:World):Calls Tryz.prog 124 #[.int .i64 x,.int .i64 y] w (fun e w'=>e=.returned (.int .i64 (sgn (x - y)))∧w'=w):=by
 go_enter Tryz.func124,Tryz.ntmps124
 go_wp2_with fail
 refine (n4_ x _).mono ?_
 rintro e w' ⟨rfl,rfl⟩
 go_wp2_with fail
 refine (n4_ y _).mono ?_
 rintro e w' ⟨rfl,rfl⟩
 by_cases h1:x < y
 ·have HS:Hid (sgn (x - y) = -1):=hd_ (by unfold sgn;rw[if_neg (by omega),if_pos (by omega)])
  go_wp2
  go_ret
  exact⟨by rw[HS.out];rfl,rfl⟩
 ·by_cases h2:y < x
  ·have HS:Hid (sgn (x - y)=1):=hd_ (by unfold sgn;rw[if_neg (by omega),if_neg (by omega)])
   go_wp2
   go_ret
   exact⟨by rw[HS.out];rfl,rfl⟩
  ·have HS:Hid (sgn (x - y)=0):=hd_ (by unfold sgn;rw[if_pos (by omega)])
   go_wp2
   go_ret
   exact⟨by rw[HS.out];rfl,rfl⟩
theorem q2_(neg:Bool)(a:OA_)(n cap:Nat)(l:List Nat)(w:World)(h:Wd w a n cap l)(hn:n≤104857600000) :
 Calls Tryz.prog 151 #[whV neg a n cap] w (LstZ (zval neg (val l)) w):=by
 have hB2:Below w.heap.size w ((w.alloc (.cells #[.bool neg,.slice a n cap] 42)).alloc (.cells #[.bool false,.slice none 0 0] 42)):=ab_ (aa_ _ _) (aa_ _ _)
 have Ha:=h.l_ hB2
 have HB:=hd_ hB2
 have hAR:=d0_ w ((w.alloc (.cells #[.bool neg,.slice a n cap] 42)).alloc (.cells #[.bool false,.slice none 0 0] 42)) #[.bool neg,.slice a n cap] #[.bool false,.slice none 0 0] 42 42 (Below.refl _ _)
 have hpl:(dg (val l)).length≤104857600000:=Nat.le_trans h.trim_le hn
 clear h hB2
 go_enter Tryz.func151,Tryz.ntmps151
 unfold whV
 go_wp2
 generalize ((w.alloc (.cells #[.bool neg,.slice a n cap] 42)).alloc (.cells #[.bool false,.slice none 0 0] 42))=W at *
 have HAd:Hid (W.drew.heap[w.heap.size]? = some (.cells #[.bool neg,.slice a n cap] 42 (0,0))):=hd_ hAR.1
 have HRd:Hid (W.drew.heap[w.heap.size+1]? = some (.cells #[.bool false,.slice none 0 0] 42 (0,0))):=hd_ hAR.2
 have Hd:Below W.heap.size W W.drew:=(Below.refl _ _).drew
 have Sd:=ha_ HAd.out
 clear hAR
 go_region_held3 (fun w'=>w'.cell? ⟨w.heap.size,0,none⟩=some (.bool neg)∧w'.cell? ⟨w.heap.size,1,none⟩=some (.slice a n cap)) (first | exact Sd | exact Sq1 | exact Sq2 | exact Sq3 _ _)
  (first
  | (go_at_call 133;(refine (natSaid.norm a n cap l _ (Ha.out.later Hd) ?q3).mono ?_);(case q3=>omega);rintro e w1 ⟨a1,n1,c1,rfl,h1,b1⟩;have hA1:=ag_ HAd.out b1;have Sq1:=ha_ hA1)
  | (go_at_call 129;(refine (dr_ neg a1 n1 c1 _ _ h1 ?q5).mono ?_);(case q5=>have:=h1.len;omega);rintro e w2 ⟨a2,n2,c2,rfl,h2,b2⟩;have Sq2:=ha_ (ag_ hA1 b2);have Sq3:=r3_ (g:=w.heap.size+1) (ag_ hA1 b2) (by omega);have hRb:=ag_ (ag_ HRd.out b1) b2;have r0:=ad_ hRb 0;have r1:=ad_ hRb 1;have f0:=ah_ hRb 0;have f1:=ah_ hRb 1;simp only[List.getElem?_toArray,List.getElem?_cons_zero,List.getElem?_cons_succ] at r0 r1;unfold whV))
 have hBe:=hd_ (ab_ HB.out (ab_ Hd (ab_ b1 b2)))
 have H2:=hd_ h2
 have hl2:=hd_ hRb
 have HF:=hd_ (H2.out.stored2 hl2.out (zneg (zval neg (val l))) (.slice a2 n2 c2))
 have HG:=hd_ (bk_ hl2.out (.bool (zneg (zval neg (val l)))) (.slice a2 n2 c2))
 have HB2:=hd_ (ay_ hBe.out (show w.heap.size≤w.heap.size+1 by omega) (.bool (zneg (zval neg (val l)))) (.slice a2 n2 c2))
 generalize zval neg (val l)=z at *
 go_wp2
 refine bodyPost_ret (results_cell_row Tryz.results151 _ _ (w.heap.size+1) 42 #[.bool (zneg z),.slice a2 n2 c2] (0,0) _ rfl HG.out Tryz.underlying42 rfl (by kernel_rfl)) rfl ?_
 exact⟨a2,n2,c2,rfl,HF.out,HB2.out⟩
theorem hz_(neg:Bool)(a:OA_)(n cap:Nat)(l:List Nat)(w:World)(h:Wd w a n cap l)(hn:n≤104857600000) :
 Calls Tryz.prog 94 #[whV neg a n cap] w (bo_ (.int .i64 (sgn (zval neg (val l)))) w):=by
 have H:=hd_ h
 clear h
 go_enter Tryz.func94,Tryz.ntmps94
 unfold whV
 go_wp2_with fail
 refine (natSaid.zero _ _ _ _ _ (H.out.later (aa_ _ _)) (by omega)).mono ?_
 rintro e w1 ⟨rfl,b1⟩
 have hA:=qk_ w w1 _ _ b1
 have r0:=ad_ hA 0
 have r1:=ad_ hA 1
 simp only[List.getElem?_toArray,List.getElem?_cons_zero,List.getElem?_cons_succ] at r0 r1
 have HB:=hd_ (ab_ (aa_ _ _) b1)
 clear hA b1 H
 generalize val l=v at *
 by_cases hv:v=0
 ·have HS:Hid (sgn (zval neg v)=0):=hd_ (by rw[hv];cases neg <;> rfl)
  rw[decide_eq_true hv]
  clear hv
  go_wp2
  go_ret
  exact⟨by rw[HS.out];rfl,HB.out⟩
 ·rw[decide_eq_false hv]
  cases neg with
  | true=>
    have HS:Hid (sgn (zval true v) = -1):=hd_ (by rw[zval_true];exact sgn_neg (by omega))
    clear hv
    go_wp2
    go_ret
    exact⟨by rw[HS.out];rfl,HB.out⟩
  | false=>
    have HS:Hid (sgn (zval false v)=1):=hd_ (by rw[k7_];unfold sgn;rw[if_neg (by omega),if_neg (by omega)])
    clear hv
    go_wp2
    go_ret
    exact⟨by rw[HS.out];rfl,HB.out⟩
theorem n6_(na:Bool)(a:OA_)(n cap:Nat)(la:List Nat)(nb:Bool)(b:OA_)(m cap':Nat)(lb:List Nat)(w:World)(ha:Wd w a n cap la)(hb:Wd w b m cap' lb)(hn:n≤104857600000)(hm:m≤104857600000) :
 Calls Tryz.prog 132 #[whV na a n cap,whV nb b m cap'] w (LstZ (zval na (val la) * zval nb (val lb)) w):=by
 have hB3:Below w.heap.size w (((w.alloc (.cells #[.bool na,.slice a n cap] 42)).alloc (.cells #[.bool nb,.slice b m cap'] 42)).alloc (.cells #[.bool false,.slice none 0 0] 42)):=ab_ (ab_ (aa_ _ _) (aa_ _ _)) (aa_ _ _)
 have Ha:=ha.l_ hB3
 have Hb:=hb.l_ hB3
 have HB:=hd_ hB3
 have h3b:=js_ w #[.bool na,.slice a n cap] #[.bool nb,.slice b m cap'] #[.bool false,.slice none 0 0] 42 42 42
 have HAo:=hd_ h3b.1
 have HBo:=hd_ h3b.2.1
 have HRo:=hd_ h3b.2.2
 have HV:=hd_ (zval_mul na nb (val la) (val lb))
 have hpl:Hid ((dg (val la * val lb)).length≤209715200000):=hd_ (by
  have h1:=b4_ (val la) (val lb)
  have h2:=ha.trim_le
  have h3:=hb.trim_le
  omega)
 clear ha hb hB3 h3b
 go_enter Tryz.func132,Tryz.ntmps132
 unfold whV
 go_wp2
 generalize (((w.alloc (.cells #[.bool na,.slice a n cap] 42)).alloc (.cells #[.bool nb,.slice b m cap'] 42)).alloc (.cells #[.bool false,.slice none 0 0] 42))=W at *
 have HAd:Hid (W.drew.heap[w.heap.size]? = some (.cells #[.bool na,.slice a n cap] 42 (0,0))):=hd_ HAo.out
 have HBd:Hid (W.drew.heap[w.heap.size+1]? = some (.cells #[.bool nb,.slice b m cap'] 42 (0,0))):=hd_ HBo.out
 have HRd:Hid (W.drew.heap[w.heap.size+1+1]? = some (.cells #[.bool false,.slice none 0 0] 42 (0,0))):=hd_ HRo.out
 have Hd:Below W.heap.size W W.drew:=(Below.refl _ _).drew
 have Sd:=ck_ HAd.out HBd.out
 clear HAo HBo HRo
 go_region_held3 (fun w'=>w'.cell? ⟨w.heap.size,0,none⟩=some (.bool na)∧w'.cell? ⟨w.heap.size,1,none⟩=some (.slice a n cap)∧w'.cell? ⟨w.heap.size+1,0,none⟩=some (.bool nb)∧w'.cell? ⟨w.heap.size+1,1,none⟩=some (.slice b m cap')) (first | exact Sd | exact Sq0 | exact Sq1 | exact Sq2 | exact Sq3 _ _)
  (first
  | (go_at_call 90;(refine (l4_ a n cap la b m cap' lb _ (Ha.out.later Hd) (Hb.out.later Hd) ?q3 ?q4).mono ?_);(case q3=>omega);(case q4=>omega);rintro e w1 ⟨a1,n1,c1,rfl,h1,bq1⟩;have hA1:=ag_ HAd.out bq1;have hB1:=ag_ HBd.out bq1;have Sq1:=ck_ hA1 hB1)
  | (go_at_call 129;(refine (dr_ _ a1 n1 c1 _ _ h1 ?q5).mono ?_);(case q5=>have h7:=h1.len;have h8:=hpl.out;omega);rintro e w2 ⟨a2,n2,c2,rfl,h2,b2⟩;have Sq2:=ck_ (ag_ hA1 b2) (ag_ hB1 b2);have Sq3:=j2_ (g:=w.heap.size+1+1) (ag_ hA1 b2) (ag_ hB1 b2) (by omega) (by omega);have hRb:=ag_ (ag_ HRd.out bq1) b2;have r0:=ad_ hRb 0;have r1:=ad_ hRb 1;have f0:=ah_ hRb 0;have f1:=ah_ hRb 1;simp only[List.getElem?_toArray,List.getElem?_cons_zero,List.getElem?_cons_succ] at r0 r1;unfold whV))
 have hBe:=hd_ (ab_ HB.out (ab_ Hd (ab_ bq1 b2)))
 have H2:=hd_ h2
 have hl2:=hd_ hRb
 have HF:=hd_ (H2.out.stored2 hl2.out (zneg (zval (!(na == nb)) (val la * val lb))) (.slice a2 n2 c2))
 have HG:=hd_ (bk_ hl2.out (.bool (zneg (zval (!(na == nb)) (val la * val lb)))) (.slice a2 n2 c2))
 have HB2:=hd_ (ay_ hBe.out (show w.heap.size≤w.heap.size+1+1 by omega) (.bool (zneg (zval (!(na == nb)) (val la * val lb)))) (.slice a2 n2 c2))
 rw[HV.out] at HF HG HB2
 rw[HV.out]
 generalize zval na (val la) * zval nb (val lb)=z at *
 go_wp2
 refine bodyPost_ret (results_cell_row Tryz.results132 _ _ (w.heap.size+1+1) 42 #[.bool (zneg z),.slice a2 n2 c2] (0,0) _ rfl HG.out Tryz.underlying42 rfl (by kernel_rfl)) rfl ?_
 exact⟨a2,n2,c2,rfl,HF.out,HB2.out⟩
theorem sgn_vals{na nb:Bool}{u v:Nat}(h:sgn (zval na u)=sgn (zval nb v)):sgn (zval na u) * cmpI u v=sgn (zval na u - zval nb v):=by
 unfold sgn zval cmpI at *
 cases na <;> cases nb <;> simp at h ⊢ <;> (repeat' split at h) <;> (repeat' split) <;> omega
theorem sgn_diff{x y:Int}(h:sgn x≠sgn y):sgn (sgn x - sgn y)=sgn (x - y):=by
 unfold sgn at *
 (repeat' split at h) <;> (repeat' split) <;> omega
theorem whole_cmp(na:Bool)(a:OA_)(n cap:Nat)(la:List Nat)(nb:Bool)(b:OA_)(m cap':Nat)(lb:List Nat)(w:World)(ha:Wd w a n cap la)(hb:Wd w b m cap' lb)(hn:n≤104857600000)(hm:m≤104857600000) :
 Calls Tryz.prog 125 #[whV na a n cap,whV nb b m cap'] w (bo_ (.int .i64 (sgn (zval na (val la) - zval nb (val lb)))) w):=by
 have hB3:Below w.heap.size w ((w.alloc (.cells #[.bool na,.slice a n cap] 42)).alloc (.cells #[.bool nb,.slice b m cap'] 42)):=ab_ (aa_ _ _) (aa_ _ _)
 have Ha:=ha.l_ hB3
 have Hb:=hb.l_ hB3
 have HB:=hd_ hB3
 have h3b:=d0_ w ((w.alloc (.cells #[.bool na,.slice a n cap] 42)).alloc (.cells #[.bool nb,.slice b m cap'] 42)) #[.bool na,.slice a n cap] #[.bool nb,.slice b m cap'] 42 42 (Below.refl _ _)
 have HAo:=hd_ h3b.1
 have HBo:=hd_ h3b.2
 have HE:Hid (sgn (zval na (val la))=sgn (zval nb (val lb))→sgn (zval na (val la)) * cmpI (val la) (val lb)=sgn (zval na (val la) - zval nb (val lb))):=hd_ sgn_vals
 have HN:Hid (sgn (zval na (val la))≠sgn (zval nb (val lb))→sgn (sgn (zval na (val la)) - sgn (zval nb (val lb)))=sgn (zval na (val la) - zval nb (val lb))):=hd_ sgn_diff
 have hra:=ht_ (zval na (val la))
 have hrb:=ht_ (zval nb (val lb))
 clear ha hb hB3 h3b
 go_enter Tryz.func125,Tryz.ntmps125
 unfold whV
 go_wp2
 generalize ((w.alloc (.cells #[.bool na,.slice a n cap] 42)).alloc (.cells #[.bool nb,.slice b m cap'] 42))=W at *
 have HAd:Hid (W.drew.heap[w.heap.size]? = some (.cells #[.bool na,.slice a n cap] 42 (0,0))):=hd_ HAo.out
 have HBd:Hid (W.drew.heap[w.heap.size+1]? = some (.cells #[.bool nb,.slice b m cap'] 42 (0,0))):=hd_ HBo.out
 have Hd:Below W.heap.size W W.drew:=(Below.refl _ _).drew
 have Sd:=ck_ HAd.out HBd.out
 clear HAo HBo
 go_region_held3 (fun w'=>w'.cell? ⟨w.heap.size,0,none⟩=some (.bool na)∧w'.cell? ⟨w.heap.size,1,none⟩=some (.slice a n cap)∧w'.cell? ⟨w.heap.size+1,0,none⟩=some (.bool nb)∧w'.cell? ⟨w.heap.size+1,1,none⟩=some (.slice b m cap')) (first | exact Sd | exact Sq1 | exact Sq2)
  (first
  | (go_at_call 94;(first
  | (have qm:=M1;(refine (hz_ nb b m cap' lb _ (Hb.out.later (ab_ Hd b1)) ?q3).mono ?_);(case q3=>omega);rintro e w2 ⟨rfl,b2⟩;have Sq2:=ck_ (ag_ hA1 b2) (ag_ hB1 b2))
  | ((refine (hz_ na a n cap la _ (Ha.out.later Hd) ?q4).mono ?_);(case q4=>omega);rintro e w1 ⟨rfl,b1⟩;have M1:=True.intro;have hA1:=ag_ HAd.out b1;have hB1:=ag_ HBd.out b1;have Sq1:=ck_ hA1 hB1))))
 have HBe:=hd_ (ab_ HB.out (ab_ Hd (ab_ b1 b2)))
 have Ha2:=hd_ (Ha.out.later (ab_ Hd (ab_ b1 b2)))
 have Hb2:=hd_ (Hb.out.later (ab_ Hd (ab_ b1 b2)))
 clear Hd b1 b2 HAd HBd Sd hA1 hB1 Sq1 M1 Ha Hb HB
 generalize hx:sgn (zval na (val la))=x at *
 generalize hy:sgn (zval nb (val lb))=y at *
 clear hx hy
 by_cases hxy:x=y
 ·have hq:(x == y)=true:=by simp[hxy]
  have HE2:=hd_ (HE.out hxy)
  have hc : -1≤cmpI (val la) (val lb)∧cmpI (val la) (val lb)≤1:=by unfold cmpI;split <;> (try split) <;> omega
  clear HE HN hxy
  obtain⟨s0,s1,s2,s3⟩:=Sq2
  go_wp2_with fail
  refine (natSaid.cmp _ _ _ _ _ _ _ _ _ Ha2.out Hb2.out (by omega) (by omega)).mono ?_
  rintro e w3 ⟨rfl,b3⟩
  generalize cmpI (val la) (val lb)=c at *
  have hm1 : -1≤x * c∧x * c≤1:=by
   rcases (show x = -1∨x=0∨x=1 by omega) with rfl | rfl | rfl <;> omega
  go_wp2
  go_ret
  exact⟨by rw[←HE2.out];rfl,ab_ HBe.out b3⟩
 ·have hq:(x == y)=false:=by simp[hxy]
  have HN2:=hd_ (HN.out hxy)
  clear HE HN hxy
  go_wp2_with fail
  refine (g0_ x y _).mono ?_
  rintro e w' ⟨rfl,rfl⟩
  go_wp2
  go_ret
  exact⟨by rw[←HN2.out];rfl,HBe.out⟩




end Go.Proofs.YtocebjbjnfammaaGreat
