import Derived.Test.YtocebjbjnfammaaGreatTG5
import Derived.Test.YtocebjbjnfammaaGreatTG4
import Derived.Deep.RegionHeld3
import Derived.Test.YtocebjbjnfammaaGreatTG3
import Derived.Deep.Slices
import Derived.Laws.AppendOwn
import Derived.Test.YtocebjbjnfammaaGreatTG1
set_option maxRecDepth 4096
set_option maxHeartbeats 16000000
namespace Go.Proofs.YtocebjbjnfammaaGreat
open Go.RowKit
theorem rp_{w:World}{A0 A1:Nat}{c0_0 c0_1 c0_2 c1_0:Value}{t0 t1:TypeId}(h0:w.heap[A0]? = some (.cells #[c0_0,c0_1,c0_2] t0 (0,0)))(h1:w.heap[A1]? = some (.cells #[c1_0] t1 (0,0))):w.cell? ⟨A0,0,none⟩=some c0_0∧w.cell? ⟨A0,1,none⟩=some c0_1∧w.cell? ⟨A0,2,none⟩=some c0_2∧w.cell? ⟨A1,0,none⟩=some c1_0:=⟨ad_ h0 0,ad_ h0 1,ad_ h0 2,ad_ h1 0⟩
theorem sx_{w:World}{A0 A1 A2:Nat}{c0_0 c0_1 c0_2 c1_0 c2_0:Value}{t0 t1 t2:TypeId}(h0:w.heap[A0]? = some (.cells #[c0_0,c0_1,c0_2] t0 (0,0)))(h1:w.heap[A1]? = some (.cells #[c1_0] t1 (0,0)))(h2:w.heap[A2]? = some (.cells #[c2_0] t2 (0,0))):w.cell? ⟨A0,0,none⟩=some c0_0∧w.cell? ⟨A0,1,none⟩=some c0_1∧w.cell? ⟨A0,2,none⟩=some c0_2∧w.cell? ⟨A1,0,none⟩=some c1_0∧w.cell? ⟨A2,0,none⟩=some c2_0:=⟨ad_ h0 0,ad_ h0 1,ad_ h0 2,ad_ h1 0,ad_ h2 0⟩
theorem t5_{z:Int}{u:Nat}{neg:Bool}(h:zval neg u=z):qval neg u 1=(z:Rat):=by
 unfold qval
 rw[h,Rat.mkRat_one]
theorem dg_(z:Int)(w:World)(hz:f6_ z):Calls Tryz.prog 15 #[.int .i64 z] w (LstQ (z:Rat) w):=by
 have hz1 : -9223372036854775808≤z∧z≤9223372036854775807:=hz
 have HB:=hd_ (aa_ w (.cells #[.bool false,.slice none 0 0,.slice none 0 0] 27))
 have HR:Hid ((w.alloc (.cells #[.bool false,.slice none 0 0,.slice none 0 0] 27)).heap[w.heap.size]? = some (.cells #[.bool false,.slice none 0 0,.slice none 0 0] 27 (0,0))):=hd_ (ai_ w _ _)
 have H1:Hid (val [1]=1):=rfl
 clear hz
 by_cases hneg:z < 0
 ·obtain⟨k,hk⟩:∃k:Nat,-(z+1)=(k:Int):=⟨(-(z+1)).toNat,by omega⟩
  have hkb:k≤9223372036854775807:=by omega
  have HQ:Hid (qval true (val (dg (val (dg k)+val [1]))) (val [1])=(z:Rat)):=hd_ (by rw[H1.out,a3_,a3_];exact t5_ (by rw[qm_];omega))
  have hl1:(dg k).length≤2:=bn_ (Nat.lt_of_le_of_lt hkb (by decide))
  have hl2:(dg (val (dg k)+val [1])).length≤4:=by have:=es_ (val (dg k)) 1;rw[H1.out];rw[a3_] at this ⊢;have h3:(dg 1).length≤1:=bn_ (by decide);omega
  go_enter Tryz.func15,Tryz.ntmps15
  obtain⟨vk0,vk1,vk2⟩:=f8_ HR.out
  go_wp2_with fail
  refine (tr_ k _ (by omega)).mono ?_
  rintro e wv1 ⟨a1,n1,c1,rfl,h1,b⟩
  clear vk0 vk1 vk2
  replace HB:=bt_ HB b
  replace HR:=bl_ HR b
  clear b
  have hn1:=h1.len
  have R1:=hd_ h1
  clear h1
  have HO1:Hid ((World.alloc wv1 (.cells #[.int .u32 1] 81)).heap[wv1.heap.size]? = some (.cells #[.int .u32 1] 81 (0,0))):=hd_ (ai_ wv1 _ _)
  replace HB:=hd_ (ab_ HB.out (aa_ wv1 (.cells #[.int .u32 1] 81)))
  replace HR:=hd_ (ac_ HR.out (aa_ wv1 (.cells #[.int .u32 1] 81)))
  replace R1:=hd_ (R1.out.later (aa_ wv1 (.cells #[.int .u32 1] 81)))
  obtain⟨vk0,vk1,vk2,vk3⟩:=rp_ HR.out HO1.out
  go_wp2_with fail
  refine (q7_ a1 n1 c1 _ _ 1 1 [1] _ R1.out (Wd.lit1 wv1 81 (x:=1) (by omega)) (by omega) (by omega)).mono ?_
  rintro e wv2 ⟨a2,n2,c2,rfl,h2,b⟩
  clear vk0 vk1 vk2 vk3
  replace HB:=bt_ HB b
  replace HR:=bl_ HR b
  replace HO1:=bl_ HO1 b
  clear R1
  clear b
  have hn2:=h2.len
  have R2:=hd_ h2
  clear h2
  have HO2:Hid ((World.alloc wv2 (.cells #[.int .u32 1] 81)).heap[wv2.heap.size]? = some (.cells #[.int .u32 1] 81 (0,0))):=hd_ (ai_ wv2 _ _)
  replace HB:=hd_ (ab_ HB.out (aa_ wv2 (.cells #[.int .u32 1] 81)))
  replace HR:=hd_ (ac_ HR.out (aa_ wv2 (.cells #[.int .u32 1] 81)))
  replace HO1:=hd_ (ac_ HO1.out (aa_ wv2 (.cells #[.int .u32 1] 81)))
  replace R2:=hd_ (R2.out.later (aa_ wv2 (.cells #[.int .u32 1] 81)))
  obtain⟨vk0,vk1,vk2,vk3,vk4⟩:=sx_ HR.out HO1.out HO2.out
  go_wp2_with fail
  refine (fs_ true a2 n2 c2 _ _ 1 1 [1] _ R2.out (Wd.lit1 wv2 81 (x:=1) (by omega)) (by omega) (by omega)).mono ?_
  rintro e wv3 ⟨a3,n3,c3,b3x,m3x,d3x,rfl,h8,h9,b⟩
  clear vk0 vk1 vk2 vk3 vk4
  replace HB:=bt_ HB b
  replace HR:=bl_ HR b
  replace HO1:=bl_ HO1 b
  replace HO2:=bl_ HO2 b
  clear R2
  clear b
  rw[HQ.out] at h8 h9 ⊢
  have R8:=hd_ h8
  have R9:=hd_ h9
  clear h8 h9 HQ hl2 hn1 hn2
  unfold frV
  have HG:=hd_ (be_ HR.out (.bool (zneg (z:Rat).num)) (.slice a3 n3 c3) (.slice b3x m3x d3x))
  have HL:=hd_ (as_ HB.out (Nat.le_refl w.heap.size) (.bool (zneg (z:Rat).num)) (.slice a3 n3 c3) (.slice b3x m3x d3x))
  have HW1:=hd_ (R8.out.stored3 HR.out (zneg (z:Rat).num) a3 n3 c3 (.slice b3x m3x d3x))
  have HW2:=hd_ (R9.out.stored3 HR.out (zneg (z:Rat).num) a3 n3 c3 (.slice b3x m3x d3x))
  obtain⟨k0,k1,k2⟩:=f8_ HR.out
  have f0:=ae_ HR.out 0
  have f1:=ae_ HR.out 1
  have f2:=ae_ HR.out 2
  generalize (z:Rat)=q at *
  go_wp2
  refine bodyPost_ret (results_cell_row Tryz.results15 _ _ w.heap.size 27 #[.bool (zneg q.num),.slice a3 n3 c3,.slice b3x m3x d3x] (0,0) _ rfl HG.out Tryz.underlying27 rfl (by kernel_rfl)) rfl ?_
  exact⟨_,_,_,_,_,_,rfl,HW1.out,HW2.out,HL.out⟩
 ·obtain⟨k,hk⟩:∃k:Nat,z=(k:Int):=⟨z.toNat,by omega⟩
  have hkb:k≤9223372036854775807:=by omega
  have HQ:Hid (qval false (val (dg k)) (val [1])=(z:Rat)):=hd_ (by rw[H1.out,a3_];exact t5_ (by rw[kl_];omega))
  have hl1:(dg k).length≤2:=bn_ (Nat.lt_of_le_of_lt hkb (by decide))
  have hw:(k:Int) % 18446744073709551616=(k:Int):=by omega
  go_enter Tryz.func15,Tryz.ntmps15
  obtain⟨vk0,vk1,vk2⟩:=f8_ HR.out
  go_wp2_with fail
  refine (tr_ k _ (by omega)).mono ?_
  rintro e wv1 ⟨a1,n1,c1,rfl,h1,b⟩
  clear vk0 vk1 vk2
  replace HB:=bt_ HB b
  replace HR:=bl_ HR b
  clear b
  have hn1:=h1.len
  have R1:=hd_ h1
  clear h1
  have HO1:Hid ((World.alloc wv1 (.cells #[.int .u32 1] 81)).heap[wv1.heap.size]? = some (.cells #[.int .u32 1] 81 (0,0))):=hd_ (ai_ wv1 _ _)
  replace HB:=hd_ (ab_ HB.out (aa_ wv1 (.cells #[.int .u32 1] 81)))
  replace HR:=hd_ (ac_ HR.out (aa_ wv1 (.cells #[.int .u32 1] 81)))
  replace R1:=hd_ (R1.out.later (aa_ wv1 (.cells #[.int .u32 1] 81)))
  obtain⟨vk0,vk1,vk2,vk3⟩:=rp_ HR.out HO1.out
  go_wp2_with fail
  refine (fs_ false a1 n1 c1 _ _ 1 1 [1] _ R1.out (Wd.lit1 wv1 81 (x:=1) (by omega)) (by omega) (by omega)).mono ?_
  rintro e wv2 ⟨a3,n3,c3,b3x,m3x,d3x,rfl,h8,h9,b⟩
  clear vk0 vk1 vk2 vk3
  replace HB:=bt_ HB b
  replace HR:=bl_ HR b
  replace HO1:=bl_ HO1 b
  clear R1
  clear b
  rw[HQ.out] at h8 h9 ⊢
  have R8:=hd_ h8
  have R9:=hd_ h9
  clear h8 h9 HQ hn1
  unfold frV
  have HG:=hd_ (be_ HR.out (.bool (zneg (z:Rat).num)) (.slice a3 n3 c3) (.slice b3x m3x d3x))
  have HL:=hd_ (as_ HB.out (Nat.le_refl w.heap.size) (.bool (zneg (z:Rat).num)) (.slice a3 n3 c3) (.slice b3x m3x d3x))
  have HW1:=hd_ (R8.out.stored3 HR.out (zneg (z:Rat).num) a3 n3 c3 (.slice b3x m3x d3x))
  have HW2:=hd_ (R9.out.stored3 HR.out (zneg (z:Rat).num) a3 n3 c3 (.slice b3x m3x d3x))
  obtain⟨k0,k1,k2⟩:=f8_ HR.out
  have f0:=ae_ HR.out 0
  have f1:=ae_ HR.out 1
  have f2:=ae_ HR.out 2
  generalize (z:Rat)=q at *
  go_wp2
  refine bodyPost_ret (results_cell_row Tryz.results15 _ _ w.heap.size 27 #[.bool (zneg q.num),.slice a3 n3 c3,.slice b3x m3x d3x] (0,0) _ rfl HG.out Tryz.underlying27 rfl (by kernel_rfl)) rfl ?_
  exact⟨_,_,_,_,_,_,rfl,HW1.out,HW2.out,HL.out⟩
theorem ig_(neg:Bool)(a:OA_)(n cap:Nat)(b:OA_)(m cap':Nat)(k:Int)(w:World) :
 Calls Tryz.prog 8 #[frV neg a n cap b m cap',.int .i64 k] w (bf_ (.bool (decide (k < (n:Int)) || decide (k < (m:Int)))) w):=by
 unfold frV
 go_enter Tryz.func8,Tryz.ntmps8
 by_cases h:k < (n:Int)
 ·rw[decide_eq_true h,Bool.true_or]
  go_wp2
  go_ret
  exact⟨rfl,aa_ _ _⟩
 ·rw[decide_eq_false h,Bool.false_or]
  go_wp2
  go_ret
  exact⟨rfl,aa_ _ _⟩
open Go.ChangeShapes Go.WideShapes Go.ChangeAt Go.RowKit Go.Deep
def Frs (w:World) (a:OA_) (n cap:Nat) (ls:List (Bool × List Nat × List Nat)):Prop:=
 ls.length=n∧n≤cap∧cap≤9223372036854775807∧(a=none→cap=0)∧(n=0∨∃b off,a=some ⟨b,off,none⟩∧∀j,j < n→∃(a':OA_) (n' c':Nat) (b':OA_) (m' d':Nat),
  w.cell? ⟨b,off+j * 3,none⟩=some (.bool (ls.getD j (false,[],[])).1)∧w.cell? ⟨b,off+j * 3+1,none⟩=some (.slice a' n' c')∧w.cell? ⟨b,off+j * 3+2,none⟩=some (.slice b' m' d')∧
   Wd w a' n' c' (ls.getD j (false,[],[])).2.1∧Wd w b' m' d' (ls.getD j (false,[],[])).2.2)
theorem Frs.len{w:World}{a:Option Addr}{n cap:Nat}{ls:List (Bool × List Nat × List Nat)}(h:Frs w a n cap ls):ls.length=n:=h.1
theorem Frs.bound{w:World}{a:Option Addr}{n cap:Nat}{ls:List (Bool × List Nat × List Nat)}(h:Frs w a n cap ls):n≤cap∧cap≤9223372036854775807:=⟨h.2.1,h.2.2.1⟩
theorem Frs.later{w w':World}{a:Option Addr}{n cap:Nat}{ls:List (Bool × List Nat × List Nat)}(h:Frs w a n cap ls)(hb:Below w.heap.size w w'):Frs w' a n cap ls:=
 ⟨h.1,h.2.1,h.2.2.1,h.2.2.2.1,h.2.2.2.2.imp id fun ⟨b,off,e,hc⟩=>⟨b,off,e,fun j hj=>by
   obtain⟨a',n',c',b',m',d',h1,h2,h3,h4,h5⟩:=hc j hj
   exact⟨a',n',c',b',m',d',cell_later hb h1,cell_later hb h2,cell_later hb h3,h4.later hb,h5.later hb⟩⟩⟩
theorem Frs.l_ {w w':World}{x0 x1 x2 x3}(h:Frs w x0 x1 x2 x3)(b:Below w.heap.size w w'):Hid (Frs w' x0 x1 x2 x3):=Lib.hid (h.later b)
theorem Frs.ofNil(w:World):Frs w none 0 0 []:=⟨rfl,Nat.le_refl _,by omega,fun _=>rfl,.inl rfl⟩
section
variable {H:Type} {enc:TypeId × Value→H} {P:Program} {W:World} {base:Nat}
end
open Go.ChangeShapes Go.WideShapes Go.ChangeAt Go.RowKit Go.Deep
structure Fx where
 s:Bool
 a:Option Addr
 n:Nat
 c:Nat
 la:List Nat
 b:Option Addr
 m:Nat
 d:Nat
 lb:List Nat
def Fx.zero:Fx:=⟨false,none,0,0,[],none,0,0,[]⟩
instance:Inhabited Fx:=⟨Fx.zero⟩
def Fx.cells (x:Fx):List Value:=[.bool x.s,.slice x.a x.n x.c,.slice x.b x.m x.d]
def Fx.ok (w:World) (x:Fx):Prop:=Wd w x.a x.n x.c x.la∧Wd w x.b x.m x.d x.lb
def Fx.q (x:Fx):Rat:=qval x.s (val x.la) (val x.lb)
theorem Fx.ok.later{w w':World}{x:Fx}(h:x.ok w)(hb:Below w.heap.size w w'):x.ok w':=⟨h.1.later hb,h.2.later hb⟩
def Fxs (w:World) (a:OA_) (n cap:Nat) (L:List Fx):Prop:=
 L.length=n∧n≤cap∧cap≤9223372036854775807∧(a=none→cap=0)∧(∀x∈L,x.ok w)∧(n=0∨∃b off,a=some ⟨b,off,none⟩∧∀j,j < n→
  w.cell? ⟨b,off+j * 3,none⟩=some (.bool (L.getD j Fx.zero).s)∧w.cell? ⟨b,off+j * 3+1,none⟩=some (.slice (L.getD j Fx.zero).a (L.getD j Fx.zero).n (L.getD j Fx.zero).c)∧w.cell? ⟨b,off+j * 3+2,none⟩=some (.slice (L.getD j Fx.zero).b (L.getD j Fx.zero).m (L.getD j Fx.zero).d))
theorem Fxs.len{w:World}{a:Option Addr}{n cap:Nat}{L:List Fx}(h:Fxs w a n cap L):L.length=n:=h.1
theorem Fxs.bound{w:World}{a:Option Addr}{n cap:Nat}{L:List Fx}(h:Fxs w a n cap L):n≤cap∧cap≤9223372036854775807:=⟨h.2.1,h.2.2.1⟩
theorem Fxs.ok{w:World}{a:Option Addr}{n cap:Nat}{L:List Fx}(h:Fxs w a n cap L){x:Fx}(hx:x∈L):x.ok w:=h.2.2.2.2.1 x hx
theorem Fxs.later{w w':World}{a:Option Addr}{n cap:Nat}{L:List Fx}(h:Fxs w a n cap L)(hb:Below w.heap.size w w'):Fxs w' a n cap L:=
 ⟨h.1,h.2.1,h.2.2.1,h.2.2.2.1,fun x hx=>(h.ok hx).later hb,h.2.2.2.2.2.imp id fun ⟨b,off,e,hc⟩=>⟨b,off,e,fun j hj=>by
   obtain⟨h1,h2,h3⟩:=hc j hj
   exact⟨cell_later hb h1,cell_later hb h2,cell_later hb h3⟩⟩⟩
theorem Fxs.l_ {w w':World}{x0 x1 x2 x3}(h:Fxs w x0 x1 x2 x3)(b:Below w.heap.size w w'):Hid (Fxs w' x0 x1 x2 x3):=Lib.hid (h.later b)
theorem Fxs.at{w:World}{a:Option Addr}{n cap:Nat}{L:List Fx}(h:Fxs w a n cap L){j:Nat}(hj:j < n):∃b off,a=some ⟨b,off,none⟩∧
 w.cell? ⟨b,off+j * 3,none⟩=some (.bool (L.getD j Fx.zero).s)∧w.cell? ⟨b,off+j * 3+1,none⟩=some (.slice (L.getD j Fx.zero).a (L.getD j Fx.zero).n (L.getD j Fx.zero).c)∧w.cell? ⟨b,off+j * 3+2,none⟩=some (.slice (L.getD j Fx.zero).b (L.getD j Fx.zero).m (L.getD j Fx.zero).d)∧(L.getD j Fx.zero).ok w:=by
 rcases h.2.2.2.2.2 with h0 | ⟨b,off,e,hc⟩
 ·omega
 ·obtain⟨h1,h2,h3⟩:=hc j hj
  refine ⟨b,off,e,h1,h2,h3,h.ok ?_⟩
  have hl:j < L.length:=by rw[h.len];exact hj
  rw[List.getD_eq_getElem?_getD,List.getElem?_eq_getElem hl]
  exact List.getElem_mem hl
theorem Frs.to{w:World}{a:Option Addr}{n cap:Nat}{ls:List (Bool × List Nat × List Nat)}(h:Frs w a n cap ls):∃L,Fxs w a n cap L:=by
 obtain⟨h1,h2,h3,h4,h5⟩:=h
 rcases h5 with h0 | ⟨b,off,e,hc⟩
 ·exact⟨[],h0.symm▸rfl,h2,h3,h4,fun x hx=>(by cases hx),.inl h0⟩
 ·have each:∀j,j < n→∃x:Fx,w.cell? ⟨b,off+j * 3,none⟩=some (.bool x.s)∧w.cell? ⟨b,off+j * 3+1,none⟩=some (.slice x.a x.n x.c)∧w.cell? ⟨b,off+j * 3+2,none⟩=some (.slice x.b x.m x.d)∧x.ok w:=fun j hj=>by
   obtain⟨a',n',c',b',m',d',q1,q2,q3,q4,q5⟩:=hc j hj
   exact⟨⟨_,a',n',c',_,b',m',d',_⟩,q1,q2,q3,q4,q5⟩
  obtain⟨F,hF⟩:=choose_lt each
  have hg:∀j,j < n→((List.range n).map F).getD j Fx.zero=F j:=fun j hj=>by rw[List.getD_eq_getElem?_getD,List.getElem?_map,List.getElem?_range hj];rfl
  refine ⟨(List.range n).map F,by simp,h2,h3,h4,fun x hx=>?_,.inr ⟨b,off,e,fun j hj=>?_⟩⟩
  ·obtain⟨j,hj,rfl⟩:=List.mem_map.1 hx
   exact (hF j (List.mem_range.1 hj)).2.2.2
  ·rw[hg j hj]
   exact⟨(hF j hj).1,(hF j hj).2.1,(hF j hj).2.2.1⟩
def clean (w:World) (v:Value):Prop:=∀g,v.ownBlock=some g→∀(j:Nat) (k:Int),w.cell? ⟨g,j,none⟩≠some (.int .u32 k)
theorem me_(w:World):clean w (.slice none 0 0):=fun g h=>by simp[Value.ownBlock] at h
theorem Wd.aside{w w':World}{v:Value}{a:Option Addr}{n c:Nat}{l:List Nat}(h:Wd w a n c l)(hc:clean w v)(hg:w.grownBy w' v.ownBlock):Wd w' a n c l:=by
 refine ⟨h.1,h.2.1,h.2.2.1,h.2.2.2.1,h.2.2.2.2.1,h.2.2.2.2.2.imp id fun ⟨b,off,e,hcl⟩=>⟨b,off,e,fun j hj=>?_⟩⟩
 have h1:=hcl j hj
 have hlt:b < w.heap.size:=by
  rcases Nat.lt_or_ge b w.heap.size with h2 | h2
  ·exact h2
  ·rw[World.cell?,Array.getElem?_eq_none h2] at h1;cases h1
 rw[World.cell?_of_block (hg.block b hlt (fun e2=>hc b e2.symm _ _ h1))]
 exact h1
def c9_ (l:List Value):Prop:=∀u∈l,∀k:Int,u≠.int .u32 k
theorem fo_(x:Fx):c9_ x.cells:=by
 intro u hu k
 simp[Fx.cells] at hu
 rcases hu with rfl | rfl | rfl <;> simp
theorem dm_(L:List Fx):c9_ (L.flatMap Fx.cells):=fun u hu k=>by
 obtain⟨x,_,hx⟩:=List.mem_flatMap.1 hu
 exact fo_ x u hx k
theorem bq_{l m:List Value}(h:c9_ l)(k:c9_ m):c9_ (l ++ m):=fun u hu=>(List.mem_append.1 hu).elim (h u) (k u)
theorem cq_{w:World}{g:Nat}{n c:Nat}{cur:Array Value}{e:TypeId}{fr:Nat × Nat}(hg:w.heap[g]? = some (.cells cur e fr))(h:c9_ cur.toList):clean w (.slice (some ⟨g,0,none⟩) n c):=by
 intro g' hg' j k hc
 simp[Value.ownBlock] at hg'
 subst hg'
 rw[cell_of_row w g j cur e fr hg] at hc
 have hm:Value.int .u32 k∈cur:=Array.mem_of_getElem? hc
 exact h _ (by simpa using hm) k rfl
theorem dn_{z:Array Value}(h:c9_ z.toList)(n:Nat):c9_ (Builtin.zeroCells z n).toList:=by
 intro u hu k
 have hm:u∈Builtin.zeroCells z n:=by simpa using hu
 unfold Builtin.zeroCells at hm
 simp at hm
 obtain⟨i,h1,h2⟩:=hm
 have hz:0 < z.size:=Nat.pos_of_ne_zero (fun e=>by rw[e,Nat.mul_zero] at h1;omega)
 have hi:i % z.size < z.size:=Nat.mod_lt _ hz
 rw[getElem!_pos z _ hi] at h2
 exact h u (by rw[←h2];simp) k
theorem em_{P:Program}(w:World){ops:Array Oper}{rest:List Oper}{o:Oper}{a:Act}{Q:Exit→Act→World→Prop}(hgd:o.guard=none)(s x:Operand)(t:TypeId)
 (ho:o.op=.call { callee:=.builtin .append,args:=#[s,x],argTypes:=#[t,t] })
 (base:Nat) (e:TypeId) (i:TypeInfo) (z:Value) (size bytes:Nat) (ht:P.underlying t=some (.slice e)) (hi:P.info? e=some i) (hz:i.zero=some z)
 (hsize:i.size=size) (hby:i.bytes=bytes) (hzs:z.cells.size=size) (hsz:0 < size)
 (v:Value) (n:Nat) (xs:List Value) (hs:a.eval s=v) (hown:w.ownsRow base e size v n xs)
 (ad:Addr) (m c:Nat) (news:List Value) (hx:a.eval x=.slice (some ad) m c) (hl:news.length=m * size) (hnews:∀j u,news[j]? = some u→w.cell? (ad.add j)=some u) (h1:∀u∈news,u.oneCell'=true)
 (h63:n+m≤maxLen) (hbytes:(n+m) * bytes≤140737488355328) (hbase:base≤w.heap.size) (hm:0 < m) (hcl:clean w v) (hzc:c9_ z.cells.toList) (hnc:c9_ news) (hxc:c9_ xs)
 (h:∀v' w',w'.ownsRow base e size v' (n+m) (xs ++ news)→w.grownBy w' v.ownBlock→clean w' v'→wpList P ops Q rest (a.put o.dst v') w'):wpList P ops Q (o :: rest) a w:=by
 refine wpList_plain hgd fun _ hK=>?_
 obtain⟨v',w',hr,h2,h3,h4⟩:=run_append_own (P:=P) w base t o.type e i z size bytes ht hi hz hsize hby hzs hsz v n xs hown ad m c news hl hnews h1 h63 hbytes hbase
 have h5:clean w' v':=by
  subst hsize hby
  rcases hown.2 with ⟨rfl,rfl⟩ | ⟨g,cap,cur,rfl,hbg,hg,hnc',hcm,hcs,htake⟩
  ·have er:=run_append_nil (P:=P) w t o.type e i z ht hi hz ad m c news hl hnews hm (by simp only[maxLen] at h63;omega) (by simp only[Nat.zero_add] at hbytes;omega)
   rw[er] at hr
   simp only[Result.ok.injEq] at hr
   obtain⟨rfl,rfl⟩:=hr
   exact cq_ (heap_alloc_new w.drew _) (by simp only[Array.toList_append];exact bq_ hnc (dn_ hzc _))
  ·by_cases hroom:n+m≤cap
   ·have er:=run_append_room (P:=P) w t o.type e i ht hi g n cap cur hg ad m c news hl hnews h1 hroom (by rw[hl,hcs,←Nat.add_mul];exact Nat.mul_le_mul_right _ hroom)
    rw[er] at hr
    simp only[Result.ok.injEq] at hr
    obtain⟨rfl,rfl⟩:=hr
    have hcu:c9_ cur.toList:=fun u hu k e2=>by
     obtain⟨j,hj,e3⟩:=List.getElem_of_mem hu
     refine hcl g rfl j k ?_
     rw[cell_of_row w g j cur e (0,0) hg,←e2,←e3]
     simp
    refine cq_ (setRow_heap w g cur _ e _ hg) ?_
    refine bq_ (bq_ (fun u hu=>hcu u (List.mem_of_mem_take hu)) hnc) (fun u hu=>hcu u (List.mem_of_mem_drop hu))
   ·have holds:∀j u,xs[j]? = some u→w.cell? ((⟨g,0,none⟩:Addr).add j)=some u:=hown.cells (g:=g) rfl
    have er:=run_append_grow (P:=P) w t o.type e i z ht hi hz ⟨g,0,none⟩ n cap xs hown.1 holds ad m c news hl hnews (by omega) (by simp only[maxLen] at h63;omega) (growslice_fits (by omega) hbytes)
    rw[er] at hr
    simp only[Result.ok.injEq] at hr
    obtain⟨rfl,rfl⟩:=hr
    exact cq_ (heap_alloc_new w.drew _) (by simp only[Array.toList_append];exact bq_ (bq_ hxc hnc) (dn_ hzc _))
 unfold Oper.wp execOp
 simp only[ho,resolve,invoke,builtin,Sem.run_bind,Sem.run_pure,Result.andThen_ok,List.map_toArray,List.map_cons,List.map_nil,hs,hx,hr]
 exact hK _ _ (h v' w' h2 h3 h5)
theorem b3_(L:List Fx):(L.flatMap Fx.cells).length=L.length * 3:=by
 induction L with
 | nil=>rfl
 | cons x r ih=>rw[List.flatMap_cons,List.length_append,ih];simp[Fx.cells];omega
theorem gb_:∀(L:List Fx) (j:Nat),j < L.length→(L.flatMap Fx.cells)[j * 3]? = some (.bool (L.getD j Fx.zero).s)∧(L.flatMap Fx.cells)[j * 3+1]? = some (.slice (L.getD j Fx.zero).a (L.getD j Fx.zero).n (L.getD j Fx.zero).c)∧(L.flatMap Fx.cells)[j * 3+2]? = some (.slice (L.getD j Fx.zero).b (L.getD j Fx.zero).m (L.getD j Fx.zero).d)
 | [],j,h=>by simp at h
 | x :: r,0,_=>by simp[Fx.cells]
 | x :: r,j+1,h=>by
   have ih:=gb_ r j (by simpa using h)
   have e:∀i,(List.flatMap Fx.cells (x :: r))[(j+1) * 3+i]? = (r.flatMap Fx.cells)[j * 3+i]?:=fun i=>by
    rw[List.flatMap_cons,List.getElem?_append_right (by simp[Fx.cells];omega)]
    congr 1
    simp[Fx.cells];omega
   have e0:=e 0
   simp only[Nat.add_zero] at e0
   rw[e0,e 1,e 2]
   simpa using ih
theorem Fxs.own{w:World}{base:Nat}{e:TypeId}{a:Option Addr}{n cap:Nat}{L:List Fx}(h:w.ownsRow base e 3 (.slice a n cap) L.length (L.flatMap Fx.cells))(hn:n=L.length)(hok:∀x∈L,x.ok w):Fxs w a n cap L:=by
 subst hn
 rcases h.2 with ⟨h',h0⟩ | ⟨g,cap',cur,h',hb,hg,hnc,hcm,hcs,htake⟩
 ·simp only[Value.slice.injEq] at h'
  obtain⟨rfl,_,rfl⟩:=h'
  exact⟨rfl,by omega,by omega,fun _=>rfl,hok,.inl h0⟩
 ·simp only[Value.slice.injEq] at h'
  obtain⟨rfl,_,rfl⟩:=h'
  refine ⟨rfl,hnc,by unfold maxLen at hcm;omega,fun e=>(by cases e),hok,.inr ⟨g,0,rfl,fun j hj=>?_⟩⟩
  have key:∀i u,(L.flatMap Fx.cells)[i]? = some u→w.cell? ⟨g,0+i,none⟩=some u:=fun i u hu=>by
   have h9:=h.cells (g:=g) rfl i u hu
   rw[add_plain] at h9
   exact h9
  obtain⟨h1,h2,h3⟩:=gb_ L j hj
  exact⟨key _ _ h1,by rw[Nat.add_assoc];exact key _ _ h2,by rw[Nat.add_assoc];exact key _ _ h3⟩
def OwnC (w:World) (base:Nat) (e:TypeId) (v:Value) (L:List Fx):Prop:=w.ownsRow base e 3 v L.length (L.flatMap Fx.cells)∧clean w v
theorem OwnC.nil(w:World)(base:Nat)(e:TypeId):OwnC w base e (.slice none 0 0) []:=⟨World.ownsRow_nil _ _ _ _,me_ _⟩
theorem OwnC.kept{w w':World}{base:Nat}{e:TypeId}{v:Value}{L:List Fx}(h:OwnC w base e v L)(hk:∀k,base≤k→k < w.heap.size→w'.heap[k]? = w.heap[k]?):OwnC w' base e v L:=by
 obtain⟨⟨h1,h2⟩,h3⟩:=h
 rcases h2 with ⟨rfl,h0⟩ | ⟨g,cap,cur,rfl,hbg,hg,h4,h5,h6,h7⟩
 ·exact⟨⟨h1,.inl ⟨rfl,h0⟩⟩,me_ _⟩
 ·have hlt:g < w.heap.size:=(Array.getElem?_eq_some_iff.1 hg).1
  have hg':w'.heap[g]? = w.heap[g]?:=hk g hbg hlt
  refine ⟨⟨h1,.inr ⟨g,cap,cur,rfl,hbg,hg'.trans hg,h4,h5,h6,h7⟩⟩,fun g2 hg2 j u=>?_⟩
  simp[Value.ownBlock] at hg2
  subst hg2
  rw[World.cell?_of_block (a:=⟨g,j,none⟩) hg']
  exact h3 g rfl j u
theorem OwnC.later{w w':World}{base:Nat}{e:TypeId}{v:Value}{L:List Fx}(h:OwnC w base e v L)(hb:Below w.heap.size w w'):OwnC w' base e v L:=h.kept fun k _ hk=>hb.block k hk
theorem OwnC.l_ {w w':World}{x0 x1 x2 x3}(h:OwnC w x0 x1 x2 x3)(b:Below w.heap.size w w'):Hid (OwnC w' x0 x1 x2 x3):=Lib.hid (h.later b)
theorem OwnC.base{w:World}{base:Nat}{e:TypeId}{v:Value}{L:List Fx}(h:OwnC w base e v L)(k:Nat)(hk:v.ownBlock=some k):base≤k:=by
 rcases h.1.2 with ⟨rfl,_⟩ | ⟨g,cap,cur,rfl,hbg,_⟩
 ·simp[Value.ownBlock] at hk
 ·simp[Value.ownBlock] at hk
  omega
theorem OwnC.slice{w:World}{base:Nat}{e:TypeId}{v:Value}{L:List Fx}(h:OwnC w base e v L)(hok:∀x∈L,x.ok w):∃(a:OA_) (cap:Nat),v=.slice a L.length cap∧Fxs w a L.length cap L:=by
 rcases h.1.2 with ⟨rfl,h0⟩ | ⟨g,cap,cur,rfl,hbg,hg⟩
 ·exact⟨none,0,by rw[h0],Fxs.own (by rw[h0];exact h0▸h.1) rfl hok⟩
 ·exact⟨_,cap,rfl,Fxs.own h.1 rfl hok⟩
theorem Fx.aside{w w':World}{v:Value}{x:Fx}(h:x.ok w)(hc:clean w v)(hg:w.grownBy w' v.ownBlock):x.ok w':=⟨h.1.aside hc hg,h.2.aside hc hg⟩
theorem j5_(w:World)(x:Fx)(e:TypeId):∀j u,(Fx.cells x)[j]? = some u→(w.alloc (.cells #[.bool x.s,.slice x.a x.n x.c,.slice x.b x.m x.d] e)).cell? ((⟨w.heap.size,0,none⟩:Addr).add j)=some u:=by
 intro j u hu
 rw[add_plain,Nat.zero_add]
 match j,hu with
 | 0,hu=>simpa [Fx.cells] using hu
 | 1,hu=>simpa [Fx.cells] using hu
 | 2,hu=>simpa [Fx.cells] using hu
 | j+3,hu=>simp[Fx.cells] at hu
theorem ht_(x:Fx):∀u∈Fx.cells x,u.oneCell'=true:=by
 intro u hu
 simp[Fx.cells] at hu
 rcases hu with rfl | rfl | rfl <;> rfl
def Fr (w:World) (v:Value) (q:Rat) (N:Nat):Prop:=
 ∃(neg:Bool) (a:OA_) (n cap:Nat) (la:List Nat) (b:OA_) (m cap':Nat) (lb:List Nat),v=frV neg a n cap b m cap'∧Wd w a n cap la∧Wd w b m cap' lb∧n≤N∧m≤N∧qval neg (val la) (val lb)=q
def Rt (w:World) (v:Value) (q:Rat) (N:Nat):Prop:=
 ∃(a:OA_) (n cap:Nat) (b:OA_) (m cap':Nat),v=frV (zneg q.num) a n cap b m cap'∧Wd w a n cap (dg q.num.natAbs)∧Wd w b m cap' (dg q.den)∧n≤N∧m≤N
theorem Fr.of{w:World}{neg:Bool}{a:Option Addr}{n cap:Nat}{la:List Nat}{b:Option Addr}{m cap':Nat}{lb:List Nat}{q:Rat}{N:Nat}(ha:Wd w a n cap la)(hb:Wd w b m cap' lb)(hn:n≤N)(hm:m≤N)(hq:qval neg (val la) (val lb)=q):Fr w (frV neg a n cap b m cap') q N:=
 ⟨neg,a,n,cap,la,b,m,cap',lb,rfl,ha,hb,hn,hm,hq⟩
theorem Rt.of{w:World}{a:Option Addr}{n cap:Nat}{b:Option Addr}{m cap':Nat}{q:Rat}{N:Nat}(ha:Wd w a n cap (dg q.num.natAbs))(hb:Wd w b m cap' (dg q.den))(hn:n≤N)(hm:m≤N):Rt w (frV (zneg q.num) a n cap b m cap') q N:=
 ⟨a,n,cap,b,m,cap',rfl,ha,hb,hn,hm⟩
theorem Rt.fr{w:World}{v:Value}{q:Rat}{N:Nat}(h:Rt w v q N):Fr w v q N:=by
 obtain⟨a,n,cap,b,m,cap',rfl,ha,hb,hn,hm⟩:=h
 exact Fr.of ha hb hn hm (er_ q)
theorem Fr.right{w:World}{a:Option Addr}{n cap:Nat}{b:Option Addr}{m cap':Nat}{q:Rat}{N:Nat}(ha:Wd w a n cap (dg q.num.natAbs))(hb:Wd w b m cap' (dg q.den))(hn:n≤N)(hm:m≤N):Fr w (frV (zneg q.num) a n cap b m cap') q N:=(Rt.of ha hb hn hm).fr
def qlen (q:Rat):Nat:=max (dg q.num.natAbs).length (dg q.den).length
theorem a5_(q:Rat):(dg q.num.natAbs).length≤qlen q:=Nat.le_max_left _ _
theorem a4_(q:Rat):(dg q.den).length≤qlen q:=Nat.le_max_right _ _
theorem ez_{q:Rat}{N:Nat}(h1:(dg q.num.natAbs).length≤N)(h2:(dg q.den).length≤N):qlen q≤N:=Nat.max_le.2 ⟨h1,h2⟩
theorem Fr.len{w:World}{v:Value}{q:Rat}{N:Nat}(h:Fr w v q N):qlen q≤N+1:=by
 obtain⟨neg,a,n,cap,la,b,m,cap',lb,rfl,ha,hb,hn,hm,rfl⟩:=h
 by_cases hv:val lb=0
 ·rw[ef_ neg (.inl hv)]
  refine ez_ ?_ ?_
  ·show (dg (0:Nat)).length≤_
   rw[cu_];exact Nat.zero_le _
  ·show (dg (1:Nat)).length≤_
   have:=hc_;omega
 ·obtain⟨h1,h2⟩:=e9_ neg (u:=val la) hv
  refine ez_ ?_ ?_
  ·rw[h1,d0_]
   exact Nat.le_trans (ax_ (Nat.div_le_self _ _)) (Nat.le_trans ha.trim_le (by omega))
  ·rw[h2]
   exact Nat.le_trans (ax_ (Nat.div_le_self _ _)) (Nat.le_trans hb.trim_le (by omega))
def en_ (q:Rat) (v:Value) (w:World) (e:Ending) (w':World):Prop:=
 ∃(a:OA_) (n cap:Nat) (b:OA_) (m cap':Nat),e=.returned (.tuple #[frV (zneg q.num) a n cap b m cap',v])∧Wd w' a n cap (dg q.num.natAbs)∧Wd w' b m cap' (dg q.den)∧Below w.heap.size w w'
structure FracSaid:Prop where
 of:∀(z:Int) (w:World),f6_ z→Calls Tryz.prog 47 #[.int .i64 z] w (LstQ (z:Rat) w)
 ratio:∀(x y:Int) (w:World),f6_ x→f6_ y→Calls Tryz.prog 48 #[.int .i64 x,.int .i64 y] w (en_ ((x:Rat) / (y:Rat)) (.bool (decide (y≠0))) w)
 sign:∀(v:Value) (q:Rat) (w:World),Fr w v q 2097152000→Calls Tryz.prog 44 #[v] w (bf_ (.int .i64 (sgn q.num)) w)
 same:∀(v u:Value) (p q:Rat) (w:World),Fr w v p 2097152000→Fr w u q 2097152000→Calls Tryz.prog 40 #[v,u] w (bf_ (.bool (decide (p=q))) w)
 add:∀(v u:Value) (p q:Rat) (w:World),Fr w v p 2097152000→Fr w u q 2097152000→Calls Tryz.prog 41 #[v,u] w (LstQ (p+q) w)
 sub:∀(v u:Value) (p q:Rat) (w:World),Fr w v p 2097152000→Fr w u q 2097152000→Calls Tryz.prog 42 #[v,u] w (LstQ (p - q) w)
 mul:∀(v u:Value) (p q:Rat) (w:World),Fr w v p 2097152000→Fr w u q 2097152000→Calls Tryz.prog 43 #[v,u] w (LstQ (p * q) w)
 quo:∀(v u:Value) (p q:Rat) (w:World),Fr w v p 2097152000→Fr w u q 2097152000→Calls Tryz.prog 63 #[v,u] w (en_ (p / q) (.bool (decide (q≠0))) w)
theorem c5_:f6_ 0:=by unfold f6_;omega
theorem g0_:f6_ 1:=by unfold f6_;omega
theorem qden_nz(q:Rat):Hid (val (dg q.den)≠0):=hd_ (by rw[a3_];exact q.den_nz)
theorem ho_(v:Value)(q:Rat)(w:World)(h:Fr w v q 20971520000):Calls Tryz.prog 11 #[v] w (LstQ q w):=by
 obtain⟨neg,a,n,cap,la,b,m,cap',lb,rfl,ha,hb,hn,hm,rfl⟩:=h
 exact fs_ neg a n cap la b m cap' lb w ha hb (by omega) (by omega)
theorem ha_(v u:Value)(p q:Rat)(w:World)(h:Rt w v p 15728640000)(k:Rt w u q 15728640000):Calls Tryz.prog 113 #[v,u] w (LstQ (p+q) w):=by
 obtain⟨a,n,cap,b,m,cap',rfl,ha,hb,hn,hm⟩:=h
 obtain⟨a',n',c',b',m',d',rfl,ha',hb',hn',hm'⟩:=k
 have h:=ref09_add (zneg p.num) a n cap _ b m cap' _ (zneg q.num) a' n' c' _ b' m' d' _ w ha hb ha' hb' (by omega) (by omega) (by omega) (by omega) (qden_nz p) (qden_nz q)
 rwa [er_,er_] at h
theorem fw_(v u:Value)(p q:Rat)(w:World)(h:Rt w v p 15728640000)(k:Rt w u q 15728640000):Calls Tryz.prog 114 #[v,u] w (LstQ (p * q) w):=by
 obtain⟨a,n,cap,b,m,cap',rfl,ha,hb,hn,hm⟩:=h
 obtain⟨a',n',c',b',m',d',rfl,ha',hb',hn',hm'⟩:=k
 have h:=ref09_mul (zneg p.num) a n cap _ b m cap' _ (zneg q.num) a' n' c' _ b' m' d' _ w ha hb ha' hb' (by omega) (by omega) (by omega) (by omega)
 rwa [er_,er_] at h
theorem hf_(v u:Value)(p q:Rat)(w:World)(h:Rt w v p 15728640000)(k:Rt w u q 15728640000):Calls Tryz.prog 54 #[v,u] w (LstQ (p / q) w):=by
 obtain⟨a,n,cap,b,m,cap',rfl,ha,hb,hn,hm⟩:=h
 obtain⟨a',n',c',b',m',d',rfl,ha',hb',hn',hm'⟩:=k
 have h:=ref09_quo (zneg p.num) a n cap _ b m cap' _ (zneg q.num) a' n' c' _ b' m' d' _ w ha hb ha' hb' (by omega) (by omega) (by omega) (by omega)
 rwa [er_,qinv_dg,←Rat.div_def] at h
theorem h4_(v:Value)(q:Rat)(w:World)(h:Rt w v q 15728640000):Calls Tryz.prog 70 #[v] w (bf_ (.bool (decide (q=0))) w):=by
 obtain⟨a,n,cap,b,m,cap',rfl,ha,_⟩:=h
 have h:=uz_ (zneg q.num) a n cap b m cap' w
 have h2:((n:Int) == 0)=decide (q=0):=by
  have h3:=ha.len
  by_cases hq:q=0
  ·rw[decide_eq_true hq]
   rw[hq] at h3
   have h4:n=0:=by rw[←h3];show (dg (0:Nat)).length=0;rw[cu_];rfl
   subst h4;rfl
  ·rw[decide_eq_false hq]
   have h5:n≠0:=fun e=>by
    rw[e] at h3
    exact num_nz hq (Int.natAbs_eq_zero.1 (dg_nil_iff.1 h3))
   simp[h5]
 rwa [h2] at h
theorem ie_(q:Rat):1≤qlen q:=by
 have h1:=a4_ q
 have h2:(dg q.den).length≠0:=fun e=>q.den_nz (dg_nil_iff.1 e)
 omega
theorem p6_(x y:Nat):(dg (x+y)).length≤max (dg x).length (dg y).length+1:=by
 apply bn_
 have h1:=ee_ (cz_ x)
 have h2:=ee_ (cz_ y)
 rw[a3_] at h1 h2
 have h3:4294967296 ^ (dg x).length≤4294967296 ^ max (dg x).length (dg y).length:=Nat.pow_le_pow_right (by decide) (Nat.le_max_left _ _)
 have h4:4294967296 ^ (dg y).length≤4294967296 ^ max (dg x).length (dg y).length:=Nat.pow_le_pow_right (by decide) (Nat.le_max_right _ _)
 rw[Nat.pow_succ]
 omega
theorem kc_(s:Int)(v:Nat):qlen (mkRat s v)≤max (dg s.natAbs).length (dg v).length+1:=by
 have h:=qval_len (zneg s) s.natAbs v
 unfold qval at h
 rw[hp_] at h
 exact ez_ (by omega) (by omega)
theorem fm_(p q:Rat):qlen (p+q)≤qlen p+qlen q+2:=by
 have h1:=kc_ (p.num * q.den+q.num * p.den) (p.den * q.den)
 rw[show mkRat (p.num * q.den+q.num * p.den) (p.den * q.den)=p+q from (Rat.add_def' p q).symm] at h1
 have h2:(dg (p.num * q.den+q.num * p.den).natAbs).length≤(dg (p.num.natAbs * q.den+q.num.natAbs * p.den)).length:=by
  refine ax_ (Nat.le_trans (Int.natAbs_add_le _ _) ?_)
  rw[Int.natAbs_mul,Int.natAbs_mul,Int.natAbs_natCast,Int.natAbs_natCast]
  exact Nat.le_refl _
 have h3:=p6_ (p.num.natAbs * q.den) (q.num.natAbs * p.den)
 have h4:=bp_ p.num.natAbs q.den
 have h5:=bp_ q.num.natAbs p.den
 have h6:=bp_ p.den q.den
 have h7:=a5_ p
 have h8:=a5_ q
 have h9:=a4_ p
 have h10:=a4_ q
 omega
theorem qlen_opp(q:Rat):qlen (-q)=qlen q:=by unfold qlen;rw[Rat.neg_num,Rat.neg_den,Int.natAbs_neg]
theorem qlen_sub(p q:Rat):qlen (p - q)≤qlen p+qlen q+2:=by
 rw[Rat.sub_eq_add_neg]
 have:=fm_ p (-q)
 rwa [qlen_opp] at this
theorem ci_(p q:Rat):qlen (p * q)≤qlen p+qlen q+1:=by
 have h1:=kc_ (p.num * q.num) (p.den * q.den)
 rw[show mkRat (p.num * q.num) (p.den * q.den)=p * q from (Rat.mul_def' p q).symm] at h1
 have h2:(dg (p.num * q.num).natAbs).length=(dg (p.num.natAbs * q.num.natAbs)).length:=by rw[Int.natAbs_mul]
 have h4:=bp_ p.num.natAbs q.num.natAbs
 have h6:=bp_ p.den q.den
 have h7:=a5_ p
 have h8:=a5_ q
 have h9:=a4_ p
 have h10:=a4_ q
 omega
theorem cw_:qlen 0=1:=by
 show max (dg (0:Nat)).length (dg (1:Nat)).length=1
 rw[cu_,fk_ (by decide) (by decide)];rfl
theorem iq_(q:Rat):qlen q⁻¹≤qlen q:=by
 by_cases h:q=0
 ·subst h;rw[Rat.inv_zero];exact Nat.le_refl _
 ·refine ez_ ?_ ?_
  ·rw[(n3_ h).1];exact a4_ q
  ·rw[(n3_ h).2];exact a5_ q
theorem lp_(p q:Rat):qlen (p / q)≤qlen p+qlen q+1:=by
 rw[Rat.div_def]
 have h1:=ci_ p q⁻¹
 have h2:=iq_ q
 omega
theorem b4_{z:Int}(h:f6_ z):qlen (z:Rat)≤2:=by
 unfold f6_ at h
 refine ez_ ?_ ?_
 ·rw[Rat.num_intCast]
  refine bn_ ?_
  have:(4294967296:Nat) ^ 2=18446744073709551616:=by decide
  rw[this];omega
 ·rw[Rat.den_intCast]
  have:=hc_;omega
def radd:List Rat→List Rat→List Rat
 | x :: l,y :: m=>(x+y) :: radd l m
 | _,_=>[]
def ag_ (c:Rat) (l:LR_):List Rat:=l.map (fun x=>c * x)
def rdot:List Rat→List Rat→Rat
 | x :: l,y :: m=>x * y+rdot l m
 | _,_=>0
theorem dx_:∀(l m:LR_),l.length=m.length→(radd l m).length=l.length
 | [],[],_=>rfl
 | x :: l,y :: m,h=>by
   have:=dx_ l m (by simpa using h)
   simp only[radd,List.length_cons,this]
 | [],y :: m,h=>by simp at h
 | x :: l,[],h=>by simp at h
theorem a9_(c:Rat)(l:LR_):(ag_ c l).length=l.length:=List.length_map _
def mw_:List UInt8→Nat
 | [] => 0
 | x :: r=>if x.toNat=44 then 0 else mw_ r+1
def g2_ (l:List UInt8):List (List UInt8):=
 if _h:mw_ l < l.length then l.take (mw_ l) :: g2_ (l.drop (mw_ l+1)) else [l]
termination_by l.length
decreasing_by rw[List.length_drop];omega
def kv_:List (List UInt8)→Int
 | [] => 0
 | p :: r=>if rx_ p≠0 then rx_ p else kv_ r
def ko_ (off:Nat):List (List UInt8)→Int
 | [] => 0
 | p :: r=>if rx_ p≠0 then (off:Int)+figPlace p else ko_ (off+p.length+1) r
def rowKind (l:List UInt8):Int:=if l=[] then 0 else kv_ (g2_ l)
def ts_ (l:List UInt8):Int:=if l=[] then 0 else ko_ 0 (g2_ l)
def rowVals (l:List UInt8):List Rat:=if l=[]∨kv_ (g2_ l)≠0 then [] else (g2_ l).map uj_
def rx (q:Rat) (a:OA_) (n c:Nat) (b:OA_) (m d:Nat):Fx:=⟨zneg q.num,a,n,c,dg q.num.natAbs,b,m,d,dg q.den⟩
theorem rx_q(q:Rat)(a:OA_)(n c:Nat)(b:OA_)(m d:Nat):(rx q a n c b m d).q=q:=er_ q
def Fx.right (x:Fx):Prop:=x.s=zneg x.q.num∧x.la=dg x.q.num.natAbs∧x.lb=dg x.q.den
theorem dr_(q:Rat)(a:OA_)(n c:Nat)(b:OA_)(m d:Nat):(rx q a n c b m d).right:=by
 unfold Fx.right
 rw[rx_q]
 exact⟨rfl,rfl,rfl⟩
def Rw (w:World) (a:OA_) (n cap:Nat) (qs:LR_):Prop:=∃L,Fxs w a n cap L∧L.map Fx.q=qs∧∀x∈L,x.right
theorem Rw.later{w w':World}{a:Option Addr}{n cap:Nat}{qs:List Rat}(h:Rw w a n cap qs)(hb:Below w.heap.size w w'):Rw w' a n cap qs:=by
 obtain⟨L,h1,h2,h3⟩:=h
 exact⟨L,h1.later hb,h2,h3⟩
theorem Rw.l_ {w w':World}{x0 x1 x2 x3}(h:Rw w x0 x1 x2 x3)(b:Below w.heap.size w w'):Hid (Rw w' x0 x1 x2 x3):=Lib.hid (h.later b)
theorem Rw.len{w:World}{a:Option Addr}{n cap:Nat}{qs:List Rat}(h:Rw w a n cap qs):qs.length=n:=by
 obtain⟨L,h1,h2,_⟩:=h
 rw[←h2,List.length_map];exact h1.len
def b5_ (qs:LR_) (w:World) (e:Ending) (w':World):Prop:=∃(a:OA_) (n cap:Nat),e=.returned (.slice a n cap)∧Rw w' a n cap qs∧Below w.heap.size w w'
def tj_ (qs:LR_) (v:Value) (w:World) (e:Ending) (w':World):Prop:=∃(a:OA_) (n cap:Nat),e=.returned (.tuple #[.slice a n cap,v])∧Rw w' a n cap qs∧Below w.heap.size w w'
def Row (w:World) (base:Nat) (e:TypeId) (v:Value) (qs:LR_):Prop:=∃L,OwnC w base e v L∧L.map Fx.q=qs∧∀x∈L,x.ok w∧x.right
theorem Row.nil(w:World)(base:Nat)(e:TypeId):Row w base e (.slice none 0 0) []:=⟨[],OwnC.nil _ _ _,rfl,fun x hx=>by simp at hx⟩
theorem Row.later{w w':World}{base:Nat}{e:TypeId}{v:Value}{qs:List Rat}(h:Row w base e v qs)(hb:Below w.heap.size w w'):Row w' base e v qs:=by
 obtain⟨L,h1,h2,h3⟩:=h
 exact⟨L,h1.later hb,h2,fun x hx=>⟨(h3 x hx).1.later hb,(h3 x hx).2⟩⟩
theorem Row.l_ {w w':World}{x0 x1 x2 x3}(h:Row w x0 x1 x2 x3)(b:Below w.heap.size w w'):Hid (Row w' x0 x1 x2 x3):=Lib.hid (h.later b)
theorem Row.out{w:World}{base:Nat}{e:TypeId}{v:Value}{qs:List Rat}(h:Row w base e v qs):∃(a:OA_) (cap:Nat),v=.slice a qs.length cap∧Rw w a qs.length cap qs:=by
 obtain⟨L,h1,h2,h3⟩:=h
 obtain⟨a,cap,rfl,hf⟩:=h1.slice (fun x hx=>(h3 x hx).1)
 have hl:L.length=qs.length:=by rw[←h2,List.length_map]
 rw[hl] at hf ⊢
 exact⟨a,cap,rfl,L,hf,h2,fun x hx=>(h3 x hx).2⟩
theorem c7_{P:Program}(w:World){ops:Array Oper}{rest:List Oper}{o:Oper}{act:Act}{Q:Exit→Act→World→Prop}(hgd:o.guard=none)(s x:Operand)(t:TypeId)
 (ho:o.op=.call { callee:=.builtin .append,args:=#[s,x],argTypes:=#[t,t] })
 (base:Nat) (e:TypeId) (i:TypeInfo) (ht:P.underlying t=some (.slice e)) (hi:P.info? e=some i) (hz:i.zero=some (.agg #[.bool false,.slice none 0 0,.slice none 0 0]))
 (hsize:i.size=3) (hby:i.bytes=56) (v:Value) (qs:LR_) (hs:act.eval s=v) (hrow:Row w base e v qs)
 (ad:Addr) (q:Rat) (a:OA_) (n c:Nat) (b:OA_) (m d:Nat) (hx:act.eval x=.slice (some ad) 1 1)
 (hnews:∀j u,(rx q a n c b m d).cells[j]? = some u→w.cell? (ad.add j)=some u) (ha:Wd w a n c (dg q.num.natAbs)) (hb:Wd w b m d (dg q.den))
 (hlen:qs.length≤1000000) (hbase:base≤w.heap.size)
 (h:∀v' w',Row w' base e v' (qs ++ [q])→w.grownBy w' v.ownBlock→(∀k,v.ownBlock=some k→base≤k)→clean w v→wpList P ops Q rest (act.put o.dst v') w'):wpList P ops Q (o :: rest) act w:=by
 obtain⟨L,h1,h2,h3⟩:=hrow
 have hl:L.length=qs.length:=by rw[←h2,List.length_map]
 have hzw:c9_ (Value.agg #[.bool false,.slice none 0 0,.slice none 0 0]).cells.toList:=by
  intro u hu k
  simp[Value.cells] at hu
  rcases hu with rfl | rfl <;> simp
 refine em_ w hgd s x t ho base e i (.agg #[.bool false,.slice none 0 0,.slice none 0 0]) 3 56 ht hi hz hsize hby rfl (by decide) v L.length (L.flatMap Fx.cells) hs h1.1 ad 1 1 (rx q a n c b m d).cells hx rfl hnews (ht_ _) (by unfold maxLen;omega) (by omega) hbase (by decide) h1.2 hzw (fo_ _) (dm_ _) ?_
 intro v' w' hown hgrow hcl
 refine h v' w' ⟨L ++ [rx q a n c b m d],⟨by simpa [List.flatMap_append] using hown,hcl⟩,by rw[List.map_append,h2];simp[rx_q],fun y hy=>?_⟩ hgrow (fun k hk=>h1.base k hk) h1.2
 rcases List.mem_append.1 hy with hy | hy
 ·exact⟨Fx.aside (h3 y hy).1 h1.2 hgrow,(h3 y hy).2⟩
 ·rw[List.mem_singleton.1 hy]
  exact⟨⟨ha.aside h1.2 hgrow,hb.aside h1.2 hgrow⟩,dr_ _ _ _ _ _ _ _⟩
theorem gm_(w:World)(q:Rat)(a:OA_)(n c:Nat)(b:OA_)(m d:Nat)(e:TypeId):∀j u,(rx q a n c b m d).cells[j]? = some u→(w.alloc (.cells #[.bool (zneg q.num),.slice a n c,.slice b m d] e)).cell? ((⟨w.heap.size,0,none⟩:Addr).add j)=some u:=j5_ w (rx q a n c b m d) e
def Fxss (w:World) (a:OA_) (n cap:Nat) (ls:List (List Fx)):Prop:=
 ls.length=n∧n≤cap∧cap≤9223372036854775807∧(a=none→cap=0)∧(n=0∨∃b off,a=some ⟨b,off,none⟩∧∀j,j < n→∃a' n' c',w.cell? ⟨b,off+j,none⟩=some (.slice a' n' c')∧Fxs w a' n' c' (ls.getD j []))
theorem Fxss.len{w:World}{a:Option Addr}{n cap:Nat}{l:List (List Fx)}(h:Fxss w a n cap l):l.length=n:=h.1
theorem Fxss.bound{w:World}{a:Option Addr}{n cap:Nat}{l:List (List Fx)}(h:Fxss w a n cap l):n≤cap∧cap≤9223372036854775807:=⟨h.2.1,h.2.2.1⟩
theorem Fxss.at{w:World}{a:Option Addr}{n cap:Nat}{l:List (List Fx)}(h:Fxss w a n cap l){j:Nat}(hj:j < n):∃b off,a=some ⟨b,off,none⟩∧∃a' n' c',w.cell? ⟨b,off+j,none⟩=some (.slice a' n' c')∧Fxs w a' n' c' (l.getD j []):=by
 rcases h.2.2.2.2 with h0 | ⟨b,off,e,hc⟩
 ·omega
 ·exact⟨b,off,e,hc j hj⟩
theorem Fxss.later{w w':World}{a:Option Addr}{n cap:Nat}{l:List (List Fx)}(h:Fxss w a n cap l)(hb:Below w.heap.size w w'):Fxss w' a n cap l:=
 ⟨h.1,h.2.1,h.2.2.1,h.2.2.2.1,h.2.2.2.2.imp id fun ⟨b,off,e,hc⟩=>⟨b,off,e,fun j hj=>by
   obtain⟨a',n',c',h1,h2⟩:=hc j hj
   exact⟨a',n',c',cell_later hb h1,h2.later hb⟩⟩⟩
theorem Fxss.l_ {w w':World}{x0 x1 x2 x3}(h:Fxss w x0 x1 x2 x3)(b:Below w.heap.size w w'):Hid (Fxss w' x0 x1 x2 x3):=Lib.hid (h.later b)
theorem Fxss.ofNil(w:World):Fxss w none 0 0 []:=⟨rfl,Nat.le_refl _,by omega,fun _=>rfl,.inl rfl⟩
theorem Fxss.lit2(w:World)(e:TypeId){a1 a2:Option Addr}{n1 n2 c1 c2:Nat}{l1 l2:List Fx}(h1:Fxs w a1 n1 c1 l1)(h2:Fxs w a2 n2 c2 l2) :
 Fxss (w.alloc (.cells #[.slice a1 n1 c1,.slice a2 n2 c2] e)) (some ⟨w.heap.size,0,none⟩) 2 2 [l1,l2]:=by
 have hb:Below w.heap.size w (w.alloc (.cells #[.slice a1 n1 c1,.slice a2 n2 c2] e)):=(Below.refl _ _).alloc (Nat.le_refl _) _
 refine ⟨rfl,Nat.le_refl _,by omega,fun h=>(by cases h),.inr ⟨w.heap.size,0,rfl,fun j hj=>?_⟩⟩
 match j,hj with
 | 0,_=>exact⟨a1,n1,c1,by simp,h1.later hb⟩
 | 1,_=>exact⟨a2,n2,c2,by simp,h2.later hb⟩
theorem Fxss.lit3(w:World)(e:TypeId){a1 a2 a3:Option Addr}{n1 n2 n3 c1 c2 c3:Nat}{l1 l2 l3:List Fx}(h1:Fxs w a1 n1 c1 l1)(h2:Fxs w a2 n2 c2 l2)(h3:Fxs w a3 n3 c3 l3) :
 Fxss (w.alloc (.cells #[.slice a1 n1 c1,.slice a2 n2 c2,.slice a3 n3 c3] e)) (some ⟨w.heap.size,0,none⟩) 3 3 [l1,l2,l3]:=by
 have hb:Below w.heap.size w (w.alloc (.cells #[.slice a1 n1 c1,.slice a2 n2 c2,.slice a3 n3 c3] e)):=(Below.refl _ _).alloc (Nat.le_refl _) _
 refine ⟨rfl,Nat.le_refl _,by omega,fun h=>(by cases h),.inr ⟨w.heap.size,0,rfl,fun j hj=>?_⟩⟩
 match j,hj with
 | 0,_=>exact⟨a1,n1,c1,by simp,h1.later hb⟩
 | 1,_=>exact⟨a2,n2,c2,by simp,h2.later hb⟩
 | 2,_=>exact⟨a3,n3,c3,by simp,h3.later hb⟩
def thin (N:Nat) (L:List Fx):Prop:=∀x∈L,x.n≤N∧x.m≤N
theorem thin.mono{M N:Nat}{L:List Fx}(h:thin M L)(hn:M≤N):thin N L:=fun x hx=>⟨Nat.le_trans (h x hx).1 hn,Nat.le_trans (h x hx).2 hn⟩
theorem Fx.ok.fr{w:World}{x:Fx}{N:Nat}(h:x.ok w)(hn:x.n≤N)(hm:x.m≤N):Fr w (frV x.s x.a x.n x.c x.b x.m x.d) x.q N:=Fr.of h.1 h.2 hn hm rfl
def fqs (L:List Fx):List Rat:=L.map Fx.q
theorem aw_(L:List Fx):(fqs L).length=L.length:=List.length_map _
theorem fqs_at(L:List Fx)(j:Nat)(hj:j < L.length):(fqs L)[j]? = some (L.getD j Fx.zero).q:=by
 unfold fqs
 rw[List.getElem?_map,List.getD_eq_getElem?_getD,List.getElem?_eq_getElem hj];rfl
theorem Rw.thin{w:World}{a:Option Addr}{n cap:Nat}{qs:List Rat}(h:Rw w a n cap qs){N:Nat}(hq:∀q∈qs,qlen q≤N):∃L,Fxs w a n cap L∧fqs L=qs∧Go.Proofs.YtocebjbjnfammaaGreat.thin N L:=by
 obtain⟨L,h1,h2,h3⟩:=h
 refine ⟨L,h1,h2,fun x hx=>?_⟩
 obtain⟨h4,h5,h6⟩:=h3 x hx
 have h7:=hq x.q (h2▸List.mem_map.2 ⟨x,hx,rfl⟩)
 obtain⟨h8,h9⟩:=h1.ok hx
 have:=h8.len
 have:=h9.len
 have:=a5_ x.q
 have:=a4_ x.q
 rw[h5] at *
 rw[h6] at *
 constructor <;> omega
def kf_:List (List Rat)→List Rat
 | [] => []
 | l :: r=>r.foldl radd l
def even (LL:List (List Rat)):Prop:=∀x∈LL,∀y∈LL,x.length=y.length
instance (LL:List (List Rat)):Decidable (even LL):=by unfold even;infer_instance
def rcut (n:Int):Nat:=(min n 300).toNat
def ca_:Nat→(Nat→Rat)→Rat
 | 0,_=>0
 | n+1,f=>ca_ n f+f n
theorem g6_:∀(n:Nat) (f:Nat→Rat),ca_ (n+1) f=f 0+ca_ n (fun k=>f (k+1))
 | 0,f=>by show (0:Rat)+f 0=f 0+0;grind
 | n+1,f=>by
   show ca_ (n+1) f+f (n+1)=f 0+(ca_ n (fun k=>f (k+1))+f (n+1))
   rw[g6_ n f];grind
theorem bv_:∀{n:Nat} {f g:Nat→Rat},(∀k,k < n→f k=g k)→ca_ n f=ca_ n g
 | 0,_,_,_=>rfl
 | n+1,f,g,h=>by
   show ca_ n f+f n=ca_ n g+g n
   rw[bv_ (fun k hk=>h k (by omega)),h n (by omega)]
theorem e7_:∀n:Nat,ca_ n (fun _=>0)=0
 | 0=>rfl
 | n+1=>by show ca_ n _+0=0;rw[e7_ n];grind
theorem l3_:∀(n:Nat) (f g:Nat→Rat),ca_ n (fun k=>f k+g k)=ca_ n f+ca_ n g
 | 0,_,_=>by show (0:Rat)=0+0;grind
 | n+1,f,g=>by
   show ca_ n (fun k=>f k+g k)+(f n+g n)=(ca_ n f+f n)+(ca_ n g+g n)
   rw[l3_ n f g];grind
theorem m9_(c:Rat):∀(n:Nat) (f:Nat→Rat),ca_ n (fun k=>c * f k)=c * ca_ n f
 | 0,_=>by show (0:Rat)=c * 0;grind
 | n+1,f=>by
   show ca_ n (fun k=>c * f k)+c * f n=c * (ca_ n f+f n)
   rw[m9_ c n f];grind
theorem tf_:∀{l m:List Rat},l.length=m.length→rdot l m=ca_ l.length (fun k=>l.getD k 0 * m.getD k 0)
 | [],[],_=>by rw[rdot];rfl;simp
 | x :: l,y :: m,h=>by
   have ih:=tf_ (l:=l) (m:=m) (by simpa using h)
   rw[rdot,ih,List.length_cons,g6_]
   rfl
 | [],_ :: _,h=>by simp at h
 | _ :: _,[],h=>by simp at h
theorem getD_ext{l m:List Rat}(hl:l.length=m.length)(h:∀k,k < l.length→l.getD k 0=m.getD k 0):l=m:=by
 refine List.ext_getElem hl fun k h1 h2=>?_
 have:=h k h1
 rwa [List.getD_eq_getElem?_getD,List.getD_eq_getElem?_getD,List.getElem?_eq_getElem h1,List.getElem?_eq_getElem h2] at this
def co (p:LR_) (i:Nat):Rat:=p.getD i 0
theorem d8_(i:Nat):co [] i=0:=rfl
theorem f4_(x:Rat)(l:LR_):co (x :: l) 0=x:=rfl
theorem b1_(x:Rat)(l:LR_)(i:Nat):co (x :: l) (i+1)=co l i:=by
 unfold co
 rw[List.getD_eq_getElem?_getD,List.getD_eq_getElem?_getD,List.getElem?_cons_succ]
theorem da_{l:List Rat}{i:Nat}(h:l.length≤i):co l i=0:=by
 unfold co
 rw[List.getD_eq_getElem?_getD,List.getElem?_eq_none h];rfl
def peq (a b:LR_):Prop:=∀i,co a i=co b i
theorem peq.refl(a:LR_):peq a a:=fun _=>rfl
theorem peq.symm{a b:List Rat}(h:peq a b):peq b a:=fun i=>(h i).symm
theorem peq.trans{a b c:List Rat}(h:peq a b)(k:peq b c):peq a c:=fun i=>(h i).trans (k i)
def ah_:List Rat→List Rat
 | [] => []
 | x :: l=>if ah_ l=[]∧x=0 then [] else x :: ah_ l
theorem au_:∀p:LR_,peq (ah_ p) p
 | [],_=>rfl
 | x :: l,i=>by
   have ih:=au_ l
   rw[ah_]
   split
   ·rename_i h
    obtain⟨h1,h2⟩:=h
    rw[h1] at ih
    cases i with
    | zero=>rw[f4_,h2];rfl
    | succ i=>rw[b1_,←ih i];rfl
   ·cases i with
    | zero=>rfl
    | succ i=>rw[b1_,b1_];exact ih i
theorem kg_:∀{p:List Rat},(∀i,co p i=0)→ah_ p=[]
 | [],_=>rfl
 | x :: l,h=>by
   have h1:=kg_ (p:=l) (fun i=>by have:=h (i+1);rwa [b1_] at this)
   rw[ah_,if_pos ⟨h1,h 0⟩]
theorem br_:∀{a b:List Rat},peq a b→ah_ a=ah_ b
 | [],b,h=>(kg_ (fun i=>(h i).symm)).symm
 | x :: a,[],h=>kg_ (fun i=>h i)
 | x :: a,y :: b,h=>by
   have h0:x=y:=h 0
   have h1:=br_ (a:=a) (b:=b) (fun i=>by have:=h (i+1);rwa [b1_,b1_] at this)
   rw[ah_,ah_,h0,h1]
theorem pnorm_iff{a b:List Rat}:ah_ a=ah_ b↔peq a b:=⟨fun h=>(au_ a).symm.trans (h▸au_ b),br_⟩
theorem a7_(a:LR_):ah_ (ah_ a)=ah_ a:=br_ (au_ a)
theorem az_:∀a:LR_,(ah_ a).length≤a.length
 | [] => Nat.le_refl _
 | x :: l=>by
   have:=az_ l
   rw[ah_]
   split
   ·simp
   ·simp only[List.length_cons];omega
theorem dd_:∀a:LR_,ah_ a=a.take (ah_ a).length
 | [] => rfl
 | x :: l=>by
   have ih:=dd_ l
   rw[ah_]
   split
   ·rfl
   ·rw[List.length_cons,List.take_succ_cons,←ih]
theorem fy_{a:List Rat}{q:Rat}(h:q∈ah_ a):q∈a:=by
 rw[dd_] at h
 exact List.mem_of_mem_take h
def plen (a:LR_):Nat:=(ah_ a).length
theorem am_{a b:List Rat}(h:peq a b):plen a=plen b:=by unfold plen;rw[br_ h]
theorem bb_(a:LR_):plen a≤a.length:=az_ a
theorem b8_{a:List Rat}{i:Nat}(h:plen a≤i):co a i=0:=by rw[←au_ a i];exact da_ h
theorem dl_:∀{a:List Rat} {n:Nat},plen a=n+1→co a n≠0
 | [],n,h=>by simp[plen,ah_] at h
 | x :: l,n,h=>by
   unfold plen at h
   rw[ah_] at h
   split at h
   ·simp at h
   ·rename_i hc
    rw[List.length_cons] at h
    cases n with
    | zero=>
      have h1:ah_ l=[]:=List.eq_nil_of_length_eq_zero (by omega)
      rw[f4_]
      exact fun h2=>hc ⟨h1,h2⟩
    | succ n=>
      rw[b1_]
      exact dl_ (a:=l) (by unfold plen;omega)
theorem gn_{a:List Rat}{n:Nat}(h:∀i,n≤i→co a i=0):plen a≤n:=by
 rcases Nat.lt_or_ge n (plen a) with h1 | h1
 ·exact absurd (h (plen a - 1) (by omega)) (dl_ (a:=a) (n:=plen a - 1) (by omega))
 ·exact h1
theorem hy_{a:List Rat}{n:Nat}(h:co a n≠0):n < plen a:=by
 rcases Nat.lt_or_ge n (plen a) with h1 | h1
 ·exact h1
 ·exact absurd (b8_ h1) h
theorem plen_zero{a:List Rat}:plen a=0↔∀i,co a i=0:=⟨fun h i=>b8_ (by omega),fun h=>by have:=gn_ (a:=a) (n:=0) (fun i _=>h i);omega⟩
theorem ia_:plen []=0:=rfl
theorem cy_{a:List Rat}(h:plen a=0):peq a []:=fun i=>plen_zero.1 h i
def padd:List Rat→List Rat→List Rat
 | [],b=>b
 | a,[] => a
 | x :: a,y :: b=>(x+y) :: padd a b
theorem a8_:∀(a b:LR_) (i:Nat),co (padd a b) i=co a i+co b i
 | [],b,i=>by rw[padd,d8_];grind
 | x :: a,[],i=>by
   rw[padd,d8_]
   ·grind
   ·simp
 | x :: a,y :: b,0=>rfl
 | x :: a,y :: b,i+1=>by rw[padd,b1_,b1_,b1_];exact a8_ a b i
theorem aj_(c:Rat):∀(a:LR_) (i:Nat),co (ag_ c a) i=c * co a i
 | [],i=>by show (0:Rat)=c * 0;grind
 | x :: a,0=>rfl
 | x :: a,i+1=>by
   show co (c * x :: ag_ c a) (i+1)=_
   rw[b1_,b1_];exact aj_ c a i
def pmul:List Rat→List Rat→List Rat
 | [],_=>[]
 | x :: a,b=>padd (ag_ x b) (0 :: pmul a b)
theorem c3_:∀(a b:LR_) (n:Nat),co (pmul a b) n=ca_ (n+1) (fun i=>co a i * co b (n - i))
 | [],b,n=>by
   rw[pmul,d8_,bv_ (g:=fun _=>0) (fun k _=>by rw[d8_];grind),e7_]
 | x :: a,b,0=>by
   rw[pmul,a8_,aj_,f4_]
   show _=(0:Rat)+co (x :: a) 0 * co b 0
   rw[f4_];grind
 | x :: a,b,n+1=>by
   rw[pmul,a8_,aj_,b1_,c3_ a b n,g6_ (n+1)]
   rw[bv_ (n:=n+1) (f:=fun k=>co (x :: a) (k+1) * co b (n+1 - (k+1))) (g:=fun i=>co a i * co b (n - i)) (fun k _=>by rw[b1_,Nat.add_sub_add_right])]
   rw[f4_,Nat.sub_zero]
theorem a1_{a a' b b':List Rat}(h:peq a a')(k:peq b b'):peq (pmul a b) (pmul a' b'):=fun n=>by
 rw[c3_,c3_]
 exact bv_ fun i _=>by rw[h i,k (n - i)]
theorem c6_{a a' b b':List Rat}(h:peq a a')(k:peq b b'):peq (padd a b) (padd a' b'):=fun n=>by rw[a8_,a8_,h n,k n]
theorem bu_(c:Rat){a a':List Rat}(h:peq a a'):peq (ag_ c a) (ag_ c a'):=fun n=>by rw[aj_,aj_,h n]
theorem eu_(a b c:LR_):peq (pmul (padd a b) c) (padd (pmul a c) (pmul b c)):=fun n=>by
 rw[a8_,c3_,c3_,c3_,←l3_]
 exact bv_ fun i _=>by rw[a8_];grind
theorem padd_pmul(a b c:LR_):peq (pmul a (padd b c)) (padd (pmul a b) (pmul a c)):=fun n=>by
 rw[a8_,c3_,c3_,c3_,←l3_]
 exact bv_ fun i _=>by rw[a8_];grind
theorem c8_(k:Rat)(a b:LR_):peq (pmul (ag_ k a) b) (ag_ k (pmul a b)):=fun n=>by
 rw[aj_,c3_,c3_,←m9_]
 exact bv_ fun i _=>by rw[aj_];grind
theorem hh_(k:Rat)(a b:LR_):peq (pmul a (ag_ k b)) (ag_ k (pmul a b)):=fun n=>by
 rw[aj_,c3_,c3_,←m9_]
 exact bv_ fun i _=>by rw[aj_];grind
theorem n4_(p c:LR_):peq (pmul (0 :: p) c) (0 :: pmul p c):=fun n=>by
 rw[pmul,a8_,aj_];grind
theorem d5_:∀a b c:LR_,peq (pmul (pmul a b) c) (pmul a (pmul b c))
 | [],b,c=>peq.refl _
 | x :: a,b,c=>by
   have h1:peq (pmul (padd (ag_ x b) (0 :: pmul a b)) c) (padd (pmul (ag_ x b) c) (pmul (0 :: pmul a b) c)):=eu_ _ _ _
   refine h1.trans (c6_ (c8_ x b c) ((n4_ _ c).trans fun n=>?_))
   cases n with
   | zero=>rfl
   | succ n=>rw[b1_,b1_];exact d5_ a b c n
theorem d9_(a:LR_):peq (pmul a []) []:=fun n=>by
 rw[c3_,bv_ (g:=fun _=>0) (fun k _=>by rw[d8_];grind),e7_];rfl
theorem ol_{n k:Nat}{f:Nat→Rat}(hk:k < n)(h:∀i,i < n→i≠k→f i=0):ca_ n f=f k:=by
 induction n with
 | zero=>omega
 | succ n ih=>
   show ca_ n f+f n=f k
   by_cases hkn:k=n
   ·subst hkn
    rw[bv_ (g:=fun _=>0) (fun i hi=>h i (by omega) (by omega)),e7_];grind
   ·rw[ih (by omega) (fun i hi hne=>h i (by omega) hne),h n (by omega) (by omega)];grind
theorem fr_{a b:List Rat}{m n:Nat}(ha:plen a=m+1)(hb:plen b=n+1):plen (pmul a b)=m+n+1∧co (pmul a b) (m+n)=co a m * co b n:=by
 have e:co (pmul a b) (m+n)=co a m * co b n:=by
  rw[c3_,ol_ (k:=m) (by omega) (fun i hi hne=>?_),Nat.add_sub_cancel_left]
  rcases Nat.lt_or_ge m i with h | h
  ·rw[b8_ (a:=a) (by omega)];grind
  ·rw[b8_ (a:=b) (i:=m+n - i) (by omega)];grind
 have h1:=dl_ ha
 have h2:=dl_ hb
 have h3:co (pmul a b) (m+n)≠0:=by
  rw[e]
  intro h
  rcases Rat.mul_eq_zero.1 h with h | h
  ·exact h1 h
  ·exact h2 h
 have h4:=hy_ h3
 have h5:plen (pmul a b)≤m+n+1:=gn_ fun i hi=>by
  rw[c3_,bv_ (g:=fun _=>0) (fun k hk=>?_),e7_]
  rcases Nat.lt_or_ge m k with h | h
  ·rw[b8_ (a:=a) (by omega)];grind
  ·rw[b8_ (a:=b) (i:=i - k) (by omega)];grind
 exact⟨by omega,e⟩
theorem ms_{a b:List Rat}(h:plen (pmul a b)=0):plen a=0∨plen b=0:=by
 rcases Nat.eq_zero_or_pos (plen a) with h1 | h1
 ·exact .inl h1
 ·rcases Nat.eq_zero_or_pos (plen b) with h2 | h2
  ·exact .inr h2
  ·have:=(fr_ (a:=a) (b:=b) (m:=plen a - 1) (n:=plen b - 1) (by omega) (by omega)).1
   omega
theorem hx_(a b:LR_):plen (padd a b)≤max (plen a) (plen b):=gn_ fun i hi=>by
 rw[a8_,b8_ (a:=a) (by omega),b8_ (a:=b) (by omega)];grind
theorem hb_(c:Rat)(a:LR_):plen (ag_ c a)≤plen a:=gn_ fun i hi=>by rw[aj_,b8_ hi];grind
theorem bm_{c:Rat}(hc:c≠0)(a:LR_):plen (ag_ c a)=plen a:=by
 refine Nat.le_antisymm (hb_ c a) (gn_ fun i hi=>?_)
 have h:=b8_ hi
 rw[aj_] at h
 rcases Rat.mul_eq_zero.1 h with h | h
 ·exact absurd h hc
 ·exact h
def psub (a b:LR_):List Rat:=padd a (ag_ (-1) b)
theorem d6_(a b:LR_)(i:Nat):co (psub a b) i=co a i - co b i:=by
 unfold psub
 rw[a8_,aj_];grind
def isDiv (a b q r:LR_):Prop:=peq a (padd (pmul q b) r)∧plen r < plen b
theorem isDiv.same{a b q r q' r':List Rat}(h:isDiv a b q r)(k:isDiv a b q' r'):peq q q'∧peq r r':=by
 obtain⟨h1,h2⟩:=h
 obtain⟨k1,k2⟩:=k
 have e:∀i,co (pmul (psub q q') b) i=co (psub r' r) i:=fun i=>by
  have x1:=h1 i
  have x2:=k1 i
  rw[a8_] at x1 x2
  have x3:=eu_ q (ag_ (-1) q') b i
  rw[a8_,c8_ (-1) q' b i,aj_] at x3
  unfold psub
  rw[x3,←psub,d6_];grind
 have hq:plen (psub q q')=0:=by
  rcases Nat.eq_zero_or_pos (plen (psub q q')) with h0 | h0
  ·exact h0
  ·have t:=(fr_ (a:=psub q q') (b:=b) (m:=plen (psub q q') - 1) (n:=plen b - 1) (by omega) (by omega)).1
   have u:=am_ e
   have v:plen (psub r' r)≤max (plen r') (plen (ag_ (-1) r)):=hx_ r' (ag_ (-1) r)
   have w:=hb_ (-1) r
   omega
 have hq2:peq q q':=fun i=>by
  have x:=plen_zero.1 hq i
  rw[d6_] at x
  grind
 refine ⟨hq2,fun i=>?_⟩
 have x1:=h1 i
 have x2:=k1 i
 rw[a8_] at x1 x2
 have x3:=a1_ hq2 (peq.refl b) i
 grind
theorem isDiv.of{a a' b b' q q' r r':List Rat}(h:isDiv a b q r)(ha:peq a a')(hb:peq b b')(hq:peq q q')(hr:peq r r'):isDiv a' b' q' r':=
 ⟨(ha.symm.trans h.1).trans (c6_ (a1_ hq hb) hr),by rw[←am_ hr,←am_ hb];exact h.2⟩
def pdvd (b a:LR_):Prop:=∃k,peq a (pmul k b)
theorem pdvd.rest{a b q r:List Rat}(h:pdvd b a)(k:isDiv a b q r):plen r=0:=by
 obtain⟨c,hc⟩:=h
 have h1:isDiv a b c []:=⟨hc.trans fun i=>by rw[a8_,d8_];grind,by have:=k.2;rw[ia_];omega⟩
 have:=(k.same h1).2
 rw[am_ this,ia_]
def common (a b g:LR_):Prop:=pdvd g a∧pdvd g b∧∃u v,peq g (padd (pmul u a) (pmul v b))
theorem common.of{a a' b b' g g':List Rat}(h:common a b g)(ha:peq a a')(hb:peq b b')(hg:peq g g'):common a' b' g':=by
 obtain⟨⟨k,hk⟩,⟨l,hl⟩,u,v,huv⟩:=h
 exact⟨⟨k,(ha.symm.trans hk).trans (a1_ (peq.refl _) hg)⟩,⟨l,(hb.symm.trans hl).trans (a1_ (peq.refl _) hg)⟩,u,v,(hg.symm.trans huv).trans (c6_ (a1_ (peq.refl _) ha) (a1_ (peq.refl _) hb))⟩
theorem common.step{a b q r g:List Rat}(hd:peq a (padd (pmul q b) r))(h:common b r g):common a b g:=by
 obtain⟨⟨k,hk⟩,⟨l,hl⟩,u,v,huv⟩:=h
 refine ⟨⟨padd (pmul q k) l,?_⟩,⟨k,hk⟩,v,psub u (pmul v q),?_⟩
 ·refine hd.trans ?_
  refine (c6_ ((a1_ (peq.refl q) hk).trans (d5_ q k g).symm) hl).trans ?_
  exact (eu_ _ _ _).symm
 ·refine huv.trans fun i=>?_
  have e1:=padd_pmul v (pmul q b) r i
  have e2:=a1_ (peq.refl v) hd i
  have e3:=d5_ v q b i
  have e4:=eu_ u (ag_ (-1) (pmul v q)) b i
  have e5:=c8_ (-1) (pmul v q) b i
  rw[a8_] at e1 e4
  rw[aj_] at e5
  rw[a8_,a8_]
  show _=_+co (pmul (padd u (ag_ (-1) (pmul v q))) b) i
  rw[e4,e5,e2,e1,e3];grind
theorem pc_(c:Rat)(a:LR_):peq (pmul [c] a) (ag_ c a):=fun i=>by
 rw[pmul,a8_]
 show _+co (0 :: []) i=_
 cases i with
 | zero=>rw[f4_];grind
 | succ i=>rw[b1_,d8_];grind
theorem common.none(a:LR_):common a [] a:=⟨⟨[1],fun i=>by rw[pc_ 1 a i,aj_];grind⟩,⟨[],fun i=>rfl⟩,[1],[],fun i=>by
 rw[a8_,pc_ 1 a i,aj_]
 show _=_+(0:Rat)
 grind⟩
theorem common.scale{a b g:List Rat}(h:common a b g){c:Rat}(hc:c≠0):common a b (ag_ c g):=by
 obtain⟨⟨k,hk⟩,⟨l,hl⟩,u,v,huv⟩:=h
 have e:∀x:LR_,peq (pmul (ag_ c⁻¹ x) (ag_ c g)) (pmul x g):=fun x i=>by
  rw[c8_ c⁻¹ x (ag_ c g) i,aj_,hh_ c x g i,aj_,←Rat.mul_assoc,Rat.inv_mul_cancel c hc];grind
 refine ⟨⟨ag_ c⁻¹ k,hk.trans (e k).symm⟩,⟨ag_ c⁻¹ l,hl.trans (e l).symm⟩,ag_ c u,ag_ c v,fun i=>?_⟩
 rw[a8_,c8_ c u a i,c8_ c v b i,aj_,aj_,aj_,huv i,a8_];grind
def isGcd (a b g:LR_):Prop:=common a b g∧∀n,plen g=n+1→co g n=1
theorem pdvd.len{a b:List Rat}(h:pdvd b a)(ha:plen a≠0):plen b≠0∧plen b≤plen a:=by
 obtain⟨k,hk⟩:=h
 have e:=am_ hk
 have hk0:plen k≠0:=fun h0=>ha (by
  rw[e]
  have:=am_ (a1_ (cy_ h0) (peq.refl b))
  rw[this];rfl)
 have hb0:plen b≠0:=fun h0=>ha (by
  rw[e]
  have:=am_ ((a1_ (peq.refl k) (cy_ h0)).trans (d9_ k))
  rw[this];rfl)
 have:=(fr_ (a:=k) (b:=b) (m:=plen k - 1) (n:=plen b - 1) (by omega) (by omega)).1
 exact⟨hb0,by omega⟩
theorem pdvd.made{d a b g u v:List Rat}(h:pdvd d a)(k:pdvd d b)(hg:peq g (padd (pmul u a) (pmul v b))):pdvd d g:=by
 obtain⟨x,hx⟩:=h
 obtain⟨y,hy⟩:=k
 refine ⟨padd (pmul u x) (pmul v y),hg.trans ?_⟩
 refine (c6_ ((a1_ (peq.refl u) hx).trans (d5_ u x d).symm) ((a1_ (peq.refl v) hy).trans (d5_ v y d).symm)).trans ?_
 exact (eu_ _ _ _).symm
theorem isGcd.same{a b g h:List Rat}(hg:isGcd a b g)(hh:isGcd a b h):peq g h:=by
 obtain⟨⟨g1,g2,u,v,g3⟩,g4⟩:=hg
 obtain⟨⟨h1,h2,u',v',h3⟩,h4⟩:=hh
 have d1:pdvd g h:=g1.made g2 h3
 have d2:pdvd h g:=h1.made h2 g3
 rcases Nat.eq_zero_or_pos (plen g) with h0 | h0
 ·rcases Nat.eq_zero_or_pos (plen h) with k0 | k0
  ·exact (cy_ h0).trans (cy_ k0).symm
  ·exact absurd h0 (d1.len (by omega)).1
 ·have l1:=d2.len (by omega)
  have l2:=d1.len (by omega)
  obtain⟨k,hk⟩:=d2
  have e:=am_ hk
  have hk0:plen k≠0:=fun z=>by
   have:=am_ (a1_ (cy_ z) (peq.refl h))
   rw[this] at e
   have:plen (pmul [] h)=0:=rfl
   omega
  obtain⟨t1,t2⟩:=fr_ (a:=k) (b:=h) (m:=plen k - 1) (n:=plen h - 1) (by omega) (by omega)
  have hk1:plen k=1:=by omega
  have ek:peq k [co k 0]:=fun i=>by
   cases i with
   | zero=>rfl
   | succ i=>rw[b1_,d8_];exact b8_ (by omega)
  have eg:peq g (ag_ (co k 0) h):=(hk.trans (a1_ ek (peq.refl h))).trans (pc_ _ _)
  have x1:=g4 (plen g - 1) (by omega)
  have x2:=h4 (plen h - 1) (by omega)
  have x3:=eg (plen g - 1)
  rw[aj_,x1,show plen g - 1=plen h - 1 by omega,x2] at x3
  refine eg.trans fun i=>?_
  rw[aj_]
  grind
theorem common.times{a b g:List Rat}(h:common a b g)(z:LR_):common (pmul a z) (pmul b z) (pmul g z):=by
 obtain⟨⟨k,hk⟩,⟨l,hl⟩,u,v,huv⟩:=h
 refine ⟨⟨k,(a1_ hk (peq.refl z)).trans (d5_ k g z)⟩,⟨l,(a1_ hl (peq.refl z)).trans (d5_ l g z)⟩,u,v,?_⟩
 refine (a1_ huv (peq.refl z)).trans ((eu_ _ _ _).trans ?_)
 exact c6_ (d5_ u a z) (d5_ v b z)
theorem pdvd.trans{a b c:List Rat}(h:pdvd a b)(k:pdvd b c):pdvd a c:=by
 obtain⟨x,hx⟩:=h
 obtain⟨y,hy⟩:=k
 exact⟨pmul y x,(hy.trans (a1_ (peq.refl y) hx)).trans (d5_ y x a).symm⟩
def fx_:Nat→List Rat→List Rat
 | _,[] => []
 | k,x :: l=>((k:Nat):Rat) * x :: fx_ (k+1) l
def bw_ (a:LR_):List Rat:=fx_ 1 a.tail
theorem kx_:∀(l:LR_) (k i:Nat),co (fx_ k l) i=((k+i:Nat):Rat) * co l i
 | [],k,i=>by rw[fx_,d8_];grind
 | x :: l,k,0=>rfl
 | x :: l,k,i+1=>by rw[fx_,b1_,b1_,kx_ l (k+1) i,show k+1+i=k+(i+1) by omega]
theorem dk_(a:LR_)(i:Nat):co (bw_ a) i=((i+1:Nat):Rat) * co a (i+1):=by
 unfold bw_
 rw[kx_,Nat.add_comm 1 i]
 cases a with
 | nil=>rfl
 | cons x l=>rw[b1_];rfl
theorem lw_{a b:List Rat}(h:peq a b):peq (bw_ a) (bw_ b):=fun i=>by rw[dk_,dk_,h (i+1)]
theorem m7_(x:Rat)(l:LR_):peq (bw_ (x :: l)) (padd l (0 :: bw_ l)):=fun i=>by
 rw[dk_,b1_,a8_]
 cases i with
 | zero=>rw[f4_];show ((1:Nat):Rat) * _=_;grind
 | succ i=>
   rw[b1_,dk_]
   have:((i+1+1:Nat):Rat)=((i+1:Nat):Rat)+1:=by push_cast;rfl
   rw[this];grind
theorem u8_(a b:LR_):peq (bw_ (padd a b)) (padd (bw_ a) (bw_ b)):=fun i=>by
 rw[a8_,dk_,dk_,dk_,a8_];grind
theorem rg_(c:Rat)(a:LR_):peq (bw_ (ag_ c a)) (ag_ c (bw_ a)):=fun i=>by
 rw[aj_,dk_,dk_,aj_];grind
theorem rv_:∀a b:LR_,peq (bw_ (pmul a b)) (padd (pmul (bw_ a) b) (pmul a (bw_ b)))
 | [],b=>fun i=>rfl
 | x :: a,b=>by
   have ih:=rv_ a b
   intro i
   have e1:=u8_ (ag_ x b) (0 :: pmul a b) i
   rw[a8_,rg_ x b i,aj_,m7_ 0 (pmul a b) i,a8_] at e1
   have e2:=a1_ (m7_ x a) (peq.refl b) i
   rw[eu_ a (0 :: bw_ a) b i,a8_,n4_ (bw_ a) b i] at e2
   show co (bw_ (padd (ag_ x b) (0 :: pmul a b))) i=_
   rw[e1,a8_,e2,pmul,a8_,aj_]
   cases i with
   | zero=>rw[f4_,f4_,f4_];grind
   | succ i=>
     rw[b1_,b1_,b1_,ih i,a8_];grind
def ar_ (x:Rat):List Rat→Rat
 | [] => 0
 | c :: l=>c+x * ar_ x l
theorem kk_(x:Rat):∀{l:List Rat},(∀i,co l i=0)→ar_ x l=0
 | [],_=>rfl
 | c :: l,h=>by
   rw[ar_,kk_ x (fun i=>by have:=h (i+1);rwa [b1_] at this),show c=0 from h 0];grind
theorem ak_(x:Rat):∀{a b:List Rat},peq a b→ar_ x a=ar_ x b
 | [],b,h=>(kk_ x (fun i=>(h i).symm)).symm
 | c :: a,[],h=>kk_ x (fun i=>h i)
 | c :: a,d :: b,h=>by
   rw[ar_,ar_,ak_ x (a:=a) (b:=b) (fun i=>by have:=h (i+1);rwa [b1_,b1_] at this),show c=d from h 0]
theorem a2_(x:Rat):∀a b:LR_,ar_ x (padd a b)=ar_ x a+ar_ x b
 | [],b=>by rw[padd,ar_];grind
 | c :: a,[] => by
   rw[padd]
   ·show _=_+(0:Rat)
    grind
   ·simp
 | c :: a,d :: b=>by rw[padd,ar_,ar_,ar_,a2_ x a b];grind
theorem ap_(x k:Rat):∀a:LR_,ar_ x (ag_ k a)=k * ar_ x a
 | [] => by show (0:Rat)=k * 0;grind
 | c :: a=>by
   show k * c+x * ar_ x (ag_ k a)=k * (c+x * ar_ x a)
   rw[ap_ x k a];grind
theorem af_(x:Rat):∀a b:LR_,ar_ x (pmul a b)=ar_ x a * ar_ x b
 | [],b=>by show (0:Rat)=0 * _;grind
 | c :: a,b=>by
   rw[pmul,a2_,ap_,ar_,ar_,af_ x a b];grind
theorem el_{A B:Nat}{c:Rat}{l:List Rat}(hc:qlen c≤B)(hl:∀q∈l,qlen q≤A):∀q∈ag_ c l,qlen q≤A+B+1:=fun q hq=>by
 obtain⟨x,hx,rfl⟩:=List.mem_map.1 hq
 have h1:=hl x hx
 have h2:=ci_ c x
 omega
end Go.Proofs.YtocebjbjnfammaaGreat
