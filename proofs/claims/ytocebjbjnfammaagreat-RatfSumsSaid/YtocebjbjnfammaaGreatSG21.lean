import Derived.Test.YtocebjbjnfammaaGreatSG6
import Derived.Laws.MakeOwn
import Derived.OwnWalk
import Derived.Test.YtocebjbjnfammaaGreatSG10
import Derived.Test.YtocebjbjnfammaaGreatSG5
import Derived.Deep.RegionHeld3
import Derived.Test.YtocebjbjnfammaaGreatSG3
import Derived.Test.YtocebjbjnfammaaGreatSG11
import Derived.Test.YtocebjbjnfammaaGreatSG1
import Derived.Test.YtocebjbjnfammaaGreatSG2
import Derived.Test.YtocebjbjnfammaaGreatSG9
import Derived.BigRegion
set_option maxRecDepth 4096
set_option maxHeartbeats 16000000
namespace Go.Proofs.YtocebjbjnfammaaGreat
open Go.RowKit
def zcells:Array Value:=#[.bool false,.slice none 0 0,.slice none 0 0]
theorem no_:∀n:Nat,(madeCells zcells (n * 3)).toList=(List.replicate n Fx.zero).flatMap Fx.cells:=by
 intro n
 refine List.ext_getElem? fun j=>?_
 have hf:=b2_ (List.replicate n Fx.zero)
 rw[List.length_replicate] at hf
 by_cases hj:j < n * 3
 ·obtain⟨q,r,rfl,hr⟩:∃q r,j=q * 3+r∧r < 3:=⟨j / 3,j % 3,by omega,by omega⟩
  have hq:q < n:=by omega
  obtain⟨c0,c1,c2⟩:=fy_ (List.replicate n Fx.zero) q (by rw[List.length_replicate];exact hq)
  have hz:(List.replicate n Fx.zero).getD q Fx.zero=Fx.zero:=by
   rw[List.getD_eq_getElem?_getD,List.getElem?_replicate];split <;> rfl
  rw[hz] at c0 c1 c2
  have hl:(madeCells zcells (n * 3)).toList[q * 3+r]? = some (zcells[r]!):=by
   have h3:(q * 3+r) % zcells.size=r:=by
    show (q * 3+r) % 3=r
    omega
   simp only[madeCells,Array.toList_map,Array.toList_range,List.getElem?_map,List.getElem?_range hj,Option.map_some,h3]
  rw[hl]
  match r,hr with
  | 0,_=>exact c0.symm
  | 1,_=>exact c1.symm
  | 2,_=>exact c2.symm
 ·rw[List.getElem?_eq_none (by rw[Array.length_toList,size_madeCells];omega),List.getElem?_eq_none (by omega)]
def HalfC (w:World) (base:Nat) (e:TypeId) (v:Value) (L:List Fx) (r:Nat):Prop:=OwnC w base e v (L ++ List.replicate r Fx.zero)∧∀x∈L,x.ok w
theorem HalfC.later{w w':World}{base:Nat}{e:TypeId}{v:Value}{L:List Fx}{r:Nat}(h:HalfC w base e v L r)(hb:Below w.heap.size w w'):HalfC w' base e v L r:=⟨h.1.later hb,fun x hx=>(h.2 x hx).later hb⟩
theorem HalfC.l_ {w w':World}{x0 x1 x2 x3 x4}(h:HalfC w x0 x1 x2 x3 x4)(b:Below w.heap.size w w'):Hid (HalfC w' x0 x1 x2 x3 x4):=Lib.hid (h.later b)
theorem HalfC.done{w:World}{base:Nat}{e:TypeId}{v:Value}{L:List Fx}(h:HalfC w base e v L 0):Cop w base e v L:=by
 obtain⟨h1,h2⟩:=h
 rw[List.replicate_zero,List.append_nil] at h1
 exact⟨h1,h2⟩
theorem u4_(w:World)(base:Nat)(e:TypeId)(n:Nat)(hn:n≤maxLen)(hb:base≤w.heap.size) :
 HalfC (w.alloc (.cells (madeCells zcells (n * 3)) e)) base e (.slice (some ⟨w.heap.size,0,none⟩) n n) [] n:=by
 have hh:=heap_alloc_new w (.cells (madeCells zcells (n * 3)) e)
 have hf:=b2_ (List.replicate n Fx.zero)
 rw[List.length_replicate] at hf
 refine ⟨⟨?_,ce_ hh ?_⟩,fun x hx=>by simp at hx⟩
 ·rw[List.nil_append,List.length_replicate]
  refine ⟨hf,.inr ⟨w.heap.size,n,madeCells zcells (n * 3),rfl,hb,hh,Nat.le_refl _,hn,size_madeCells _ _,?_⟩⟩
  rw[no_,List.take_of_length_le (Nat.le_of_eq hf)]
 ·rw[no_]
  exact dh_ _
theorem cp_{P:Program}(w:World){ops:Array Oper}{rest:List Oper}{o:Oper}{a:Act}{Q:Exit→Act→World→Prop}
 (hg:o.guard=none) (l c:Operand) (t:TypeId) (hop:o.op=Op.makeSlice t l c)
 (base:Nat) (e:TypeId) (i:TypeInfo) (h1:P.underlying t=some (.slice e)) (h2:P.info? e=some i) (h3:i.zero=some (.agg #[.bool false,.slice none 0 0,.slice none 0 0])) (h4:i.size=3) (h5:i.bytes=56)
 (kl kc:IntKind) (L C:Int) (n:Nat) (hl:a.eval l=.int kl L) (hc:a.eval c=.int kc C) (hL:L=(n:Int)) (hC:C=(n:Int)) (b3:n≤1000000) (b4:base≤w.heap.size)
 (hK:∀w',HalfC w' base e (.slice (some ⟨w.heap.size,0,none⟩) n n) [] n→w.grownBy w' none→w'.heap.size=w.heap.size+1→wpList P ops Q rest (a.put o.dst (.slice (some ⟨w.heap.size,0,none⟩) n n)) w') :
 wpList P ops Q (o :: rest) a w:=by
 refine wpList_plain hg fun K hK'=>?_
 have hb':(i.bytes:Int) * (n:Int)≤281474976710656:=by rw[h5];omega
 have hrun:=run_make (P:=P) w t e i _ h1 h2 h3 kl kc n n (by omega) (by omega) hb' (by omega)
 simp only[Int.toNat_natCast,h4] at hrun
 subst hL
 subst hC
 unfold Oper.wp
 simp[execOp,hop,hl,hc,hrun,Result.andThen]
 exact hK' _ _ (hK _ (u4_ w base e n (by unfold maxLen;omega) b4) (World.grownBy_alloc w _ none) (World.size_alloc _ _))
theorem tb_{w:World}{base:Nat}{e:TypeId}{g n cap K:Nat}{xs:List Value}(h1:w.ownsRow base e 3 (.slice (some ⟨g,0,none⟩) n cap) K xs):n=K:=by
 rcases h1.2 with ⟨e1,e2⟩ | ⟨g',cap',cur,e1,_⟩
 ·cases e1
 ·simp only[Value.slice.injEq] at e1
  exact e1.2.1
theorem mr_{w:World}{base:Nat}{e:TypeId}{g n cap:Nat}{L:List Fx}{r:Nat}(h:HalfC w base e (.slice (some ⟨g,0,none⟩) n cap) L (r+1)){k:Nat}(hk:k=L.length) :
 (w.cell? ⟨g,k * 3,none⟩=some (.bool false)∧w.cell? ⟨g,k * 3+1,none⟩=some (.slice none 0 0)∧w.cell? ⟨g,k * 3+2,none⟩=some (.slice none 0 0))∧w.frozen? ⟨g,k * 3,none⟩=false∧w.frozen? ⟨g,k * 3+1,none⟩=false∧w.frozen? ⟨g,k * 3+2,none⟩=false:=by
 obtain⟨⟨h1,_⟩,_⟩:=h
 subst hk
 obtain rfl:=tb_ h1
 have hl:(L ++ List.replicate (r+1) Fx.zero).length=L.length+(r+1):=by rw[List.length_append,List.length_replicate]
 have hz:(L ++ List.replicate (r+1) Fx.zero).getD L.length Fx.zero=Fx.zero:=by
  rw[List.getD_eq_getElem?_getD,List.getElem?_append_right (Nat.le_refl _),Nat.sub_self];rfl
 obtain⟨c0,c1,c2⟩:=fy_ (L ++ List.replicate (r+1) Fx.zero) L.length (by omega)
 rw[hz] at c0 c1 c2
 have hf:=b2_ (L ++ List.replicate (r+1) Fx.zero)
 have p0:=h1.cellAt (L.length * 3) (by omega)
 have p1:=h1.cellAt (L.length * 3+1) (by omega)
 have p2:=h1.cellAt (L.length * 3+2) (by omega)
 rw[c0] at p0;rw[c1] at p1;rw[c2] at p2
 exact⟨⟨p0,p1,p2⟩,h1.frozenAt _,h1.frozenAt _,h1.frozenAt _⟩
theorem HalfC.stored{w:World}{base:Nat}{e:TypeId}{g n cap:Nat}{L:List Fx}{r:Nat}(h:HalfC w base e (.slice (some ⟨g,0,none⟩) n cap) L (r+1)){k:Nat}(hk:k=L.length)(x:Fx)(hx:x.ok w) :
 HalfC (((w.setCell ⟨g,k * 3,none⟩ (.bool x.s)).setCell ⟨g,k * 3+1,none⟩ (.slice x.a x.n x.c)).setCell ⟨g,k * 3+2,none⟩ (.slice x.b x.m x.d)) base e (.slice (some ⟨g,0,none⟩) n cap) (L ++ [x]) r∧
 w.grownBy (((w.setCell ⟨g,k * 3,none⟩ (.bool x.s)).setCell ⟨g,k * 3+1,none⟩ (.slice x.a x.n x.c)).setCell ⟨g,k * 3+2,none⟩ (.slice x.b x.m x.d)) (some g):=by
 obtain⟨⟨p0,p1,p2⟩,-⟩:=mr_ h hk
 obtain⟨⟨h1,h2⟩,h4⟩:=h
 subst hk
 have hl:(L ++ List.replicate (r+1) Fx.zero).length=L.length+(r+1):=by rw[List.length_append,List.length_replicate]
 obtain rfl:=tb_ h1
 have hset:(L ++ List.replicate (r+1) Fx.zero).set L.length x=(L ++ [x]) ++ List.replicate r Fx.zero:=by
  rw[List.set_append_right _ _ (Nat.le_refl _),Nat.sub_self,List.replicate_succ,List.set_cons_zero,List.append_assoc];rfl
 obtain⟨s0,g0⟩:=h1.stored (L.length * 3) (.bool x.s)
 obtain⟨s1,g1⟩:=s0.stored (L.length * 3+1) (.slice x.a x.n x.c)
 obtain⟨s2,g2⟩:=s1.stored (L.length * 3+2) (.slice x.b x.m x.d)
 have l0:=cx_ (j:=L.length * 3) (u:=.bool x.s) h2 p0 (fun y e=>by cases e)
 have l1:=cx_ (j:=L.length * 3+1) (u:=.slice x.a x.n x.c) l0 ((World.cell?_setCell_other _ ⟨g,L.length * 3,none⟩ ⟨g,L.length * 3+1,none⟩ _ (fun e=>by simp at e)).trans p1) (fun y e=>by cases e)
 have l2:=cx_ (j:=L.length * 3+2) (u:=.slice x.b x.m x.d) l1 (((World.cell?_setCell_other _ ⟨g,L.length * 3+1,none⟩ ⟨g,L.length * 3+2,none⟩ _ (fun e=>by simp at e)).trans (World.cell?_setCell_other _ ⟨g,L.length * 3,none⟩ ⟨g,L.length * 3+2,none⟩ _ (fun e=>by simp at e))).trans p2) (fun y e=>by cases e)
 have hg:=(g0.trans g1).trans g2
 refine ⟨⟨⟨?_,l2⟩,fun y hy=>?_⟩,hg⟩
 ·rw[←hset,f1_ _ _ _ (by omega),List.length_set]
  exact s2
 ·rcases List.mem_append.1 hy with hy | hy
  ·exact Fx.aside (h4 y hy) h2 hg
  ·rw[List.mem_singleton.1 hy]
   exact Fx.aside hx h2 hg
def Half (w:World) (base:Nat) (e:TypeId) (v:Value) (qs:LR_) (r:Nat):Prop:=∃L,HalfC w base e v L r∧L.map Fx.q=qs∧∀x∈L,x.right
theorem Half.later{w w':World}{base:Nat}{e:TypeId}{v:Value}{qs:List Rat}{r:Nat}(h:Half w base e v qs r)(hb:Below w.heap.size w w'):Half w' base e v qs r:=by
 obtain⟨L,h1,h2,h3⟩:=h
 exact⟨L,h1.later hb,h2,h3⟩
theorem Half.l_ {w w':World}{x0 x1 x2 x3 x4}(h:Half w x0 x1 x2 x3 x4)(b:Below w.heap.size w w'):Hid (Half w' x0 x1 x2 x3 x4):=Lib.hid (h.later b)
theorem Half.start{w:World}{base:Nat}{e:TypeId}{v:Value}{r:Nat}(h:HalfC w base e v [] r):Half w base e v [] r:=⟨[],h,rfl,fun x hx=>by simp at hx⟩
theorem Half.done{w:World}{base:Nat}{e:TypeId}{v:Value}{qs:List Rat}(h:Half w base e v qs 0):Row w base e v qs:=by
 obtain⟨L,h1,h2,h3⟩:=h
 exact⟨L,h1.done.1,h2,fun x hx=>⟨h1.done.2 x hx,h3 x hx⟩⟩
theorem Half.cell{w:World}{base:Nat}{e:TypeId}{g n cap:Nat}{qs:List Rat}{r:Nat}(h:Half w base e (.slice (some ⟨g,0,none⟩) n cap) qs (r+1)){k:Nat}(hk:k=qs.length) :
 (w.cell? ⟨g,k * 3,none⟩=some (.bool false)∧w.cell? ⟨g,k * 3+1,none⟩=some (.slice none 0 0)∧w.cell? ⟨g,k * 3+2,none⟩=some (.slice none 0 0))∧w.frozen? ⟨g,k * 3,none⟩=false∧w.frozen? ⟨g,k * 3+1,none⟩=false∧w.frozen? ⟨g,k * 3+2,none⟩=false:=by
 obtain⟨L,h1,h2,h3⟩:=h
 exact mr_ h1 (by rw[hk,←h2,List.length_map])
theorem Half.stored{w:World}{base:Nat}{e:TypeId}{g n cap:Nat}{qs:List Rat}{r:Nat}(h:Half w base e (.slice (some ⟨g,0,none⟩) n cap) qs (r+1)){k:Nat}(hk:k=qs.length)(q:Rat)(a:OA_)(m c:Nat)(b:OA_)(l d:Nat)(ha:Wd w a m c (dg q.num.natAbs))(hb:Wd w b l d (dg q.den)) :
 Half (((w.setCell ⟨g,k * 3,none⟩ (.bool (zneg q.num))).setCell ⟨g,k * 3+1,none⟩ (.slice a m c)).setCell ⟨g,k * 3+2,none⟩ (.slice b l d)) base e (.slice (some ⟨g,0,none⟩) n cap) (qs ++ [q]) r∧
 w.grownBy (((w.setCell ⟨g,k * 3,none⟩ (.bool (zneg q.num))).setCell ⟨g,k * 3+1,none⟩ (.slice a m c)).setCell ⟨g,k * 3+2,none⟩ (.slice b l d)) (some g):=by
 obtain⟨L,h1,h2,h3⟩:=h
 obtain⟨h5,h6⟩:=h1.stored (k:=k) (by rw[hk,←h2,List.length_map]) (rx q a m c b l d) ⟨ha,hb⟩
 refine ⟨⟨L ++ [rx q a m c b l d],h5,by rw[List.map_append,h2];simp[rx_q],fun y hy=>?_⟩,h6⟩
 rcases List.mem_append.1 hy with hy | hy
 ·exact h3 y hy
 ·rw[List.mem_singleton.1 hy]
  exact dl_ _ _ _ _ _ _ _
theorem Half.whole{w:World}{base:Nat}{e:TypeId}{v:Value}{T:List Rat}{k r:Nat}(h:Half w base e v (T.take k) r)(hk:T.length=k)(hr:r=0):Row w base e v T:=by
 subst hr
 exact h.done.whole hk
theorem whole_add(na:Bool)(a:OA_)(n cap:Nat)(la:List Nat)(nb:Bool)(b:OA_)(m cap':Nat)(lb:List Nat)(w:World)(ha:Wd w a n cap la)(hb:Wd w b m cap' lb)(hn:n≤104857600000)(hm:m≤104857600000) :
 Calls Tryz.prog 88 #[whV na a n cap,whV nb b m cap'] w (LstZ (zval na (val la)+zval nb (val lb)) w):=by
 have hB3:Below w.heap.size w (((w.alloc (.cells #[.bool na,.slice a n cap] 42)).alloc (.cells #[.bool nb,.slice b m cap'] 42)).alloc (.cells #[.bool false,.slice none 0 0] 42)):=ab_ (ab_ (aa_ _ _) (aa_ _ _)) (aa_ _ _)
 have Ha:=ha.l_ hB3
 have Hb:=hb.l_ hB3
 have HB:=hd_ hB3
 have h3b:=it_ w #[.bool na,.slice a n cap] #[.bool nb,.slice b m cap'] #[.bool false,.slice none 0 0] 42 42 42
 have HAo:=hd_ h3b.1
 have HBo:=hd_ h3b.2.1
 have HRo:=hd_ h3b.2.2
 have hla:=ha.trim_le
 have hlb:=hb.trim_le
 have Hla:=hd_ ha.len
 have Hlb:=hd_ hb.len
 clear ha hb hB3 h3b
 by_cases hne:na=nb
 ·subst hne
  have HV:Hid (zval na (val la+val lb)=zval na (val la)+zval na (val lb)):=hd_ (i3_ na _ _)
  have hva:Hid (vals [la,lb]=val la+val lb):=hd_ (by simp[vals])
  have hpl:Hid ((dg (vals [la,lb])).length≤209715200001):=hd_ (by have:=ep_ (val la) (val lb);rw[hva.out];omega)
  have hq:(na == na)=true:=by simp
  clear hla hlb
  go_enter Tryz.func88,Tryz.ntmps88
  unfold whV
  go_wp2
  generalize (((w.alloc (.cells #[.bool na,.slice a n cap] 42)).alloc (.cells #[.bool na,.slice b m cap'] 42)).alloc (.cells #[.bool false,.slice none 0 0] 42))=W at *
  have HAd:Hid (W.drew.heap[w.heap.size]? = some (.cells #[.bool na,.slice a n cap] 42 (0,0))):=hd_ HAo.out
  have HBd:Hid (W.drew.heap[w.heap.size+1]? = some (.cells #[.bool na,.slice b m cap'] 42 (0,0))):=hd_ HBo.out
  have HRd:Hid (W.drew.heap[w.heap.size+1+1]? = some (.cells #[.bool false,.slice none 0 0] 42 (0,0))):=hd_ HRo.out
  have Hd:Below W.heap.size W W.drew:=(Below.refl _ _).drew
  have Sd:=bx_ HAd.out HBd.out
  clear HAo HBo HRo
  have Sal:=fun o=>bx_ (ac_ HAd.out (aa_ W.drew o)) (ac_ HBd.out (aa_ W.drew o))
  go_region_held3 (fun w'=>w'.cell? ⟨w.heap.size,0,none⟩=some (.bool na)∧w'.cell? ⟨w.heap.size,1,none⟩=some (.slice a n cap)∧w'.cell? ⟨w.heap.size+1,0,none⟩=some (.bool na)∧w'.cell? ⟨w.heap.size+1,1,none⟩=some (.slice b m cap')) (first | exact Sd | exact Sal _ | exact Sq1 | exact Sq2 | exact Sq3 _ _)
   (first
   | (go_at_call 130;(refine (natSaid.add _ _ _ _ _ (Wds.lit2 W.drew 25 (Ha.out.later Hd) (Hb.out.later Hd)) (by omega) ?q3).mono ?_);(case q3=>have h7:=Hla.out;have h8:=Hlb.out;simp only[ed_];omega);rintro e w1 ⟨a1,n1,c1,rfl,h1,b1⟩;have bq1:=ab_ (aa_ W.drew _) b1;have hA1:=ac_ HAd.out bq1;have hB1:=ac_ HBd.out bq1;have Sq1:=bx_ hA1 hB1)
   | (go_at_call 129;(refine (d9_ na a1 n1 c1 _ _ h1 ?q5).mono ?_);(case q5=>have h7:=h1.len;have h8:=hpl.out;omega);rintro e w2 ⟨a2,n2,c2,rfl,h2,b2⟩;have Sq2:=bx_ (ac_ hA1 b2) (ac_ hB1 b2);have Sq3:=f0_ (g:=w.heap.size+1+1) (ac_ hA1 b2) (ac_ hB1 b2) (by omega) (by omega);have hRb:=ac_ (ac_ HRd.out bq1) b2;have r0:=af_ hRb 0;have r1:=af_ hRb 1;have f0:=ad_ hRb 0;have f1:=ad_ hRb 1;simp only[List.getElem?_toArray,List.getElem?_cons_zero,List.getElem?_cons_succ] at r0 r1;unfold whV))
  have hBe:=hd_ (ab_ HB.out (ab_ Hd (ab_ bq1 b2)))
  have H2:=hd_ h2
  have hl2:=hd_ hRb
  have HF:=hd_ (H2.out.stored2 hl2.out (zneg (zval na (vals [la,lb]))) (.slice a2 n2 c2))
  have HG:=hd_ (a4_ hl2.out (.bool (zneg (zval na (vals [la,lb])))) (.slice a2 n2 c2))
  have HB2:=hd_ (an_ hBe.out (show w.heap.size≤w.heap.size+1+1 by omega) (.bool (zneg (zval na (vals [la,lb])))) (.slice a2 n2 c2))
  rw[hva.out,HV.out] at HF HG HB2
  rw[hva.out,HV.out]
  generalize zval na (val la)+zval na (val lb)=z at *
  go_wp2
  refine bodyPost_ret (results_cell_row Tryz.results88 _ _ (w.heap.size+1+1) 42 #[.bool (zneg z),.slice a2 n2 c2] (0,0) _ rfl HG.out Tryz.underlying42 rfl (by kernel_rfl)) rfl ?_
  exact⟨a2,n2,c2,rfl,HF.out,HB2.out⟩
 ·have hq:(na == nb)=false:=by simp[hne]
  have Hne:=hd_ hne
  have hpl:Hid ((dg (val la - val lb+(val lb - val la))).length≤209715200001):=hd_ (by
   have h1:=aw_ (show val la - val lb+(val lb - val la)≤val la+val lb by omega)
   have h2:=ep_ (val la) (val lb)
   omega)
  clear hne hla hlb
  go_enter Tryz.func88,Tryz.ntmps88
  unfold whV
  by_cases hlt:val la < val lb
  ·have hc:cmpI (val la) (val lb) < 0:=by rw[f2_ hlt];omega
   have Hlt:=hd_ hlt
   clear hlt
   go_wp2_with fail
   refine (natSaid.gap a n cap la b m cap' lb _ Ha.out Hb.out (by omega) (by omega)).mono ?_
   rintro e w1 ⟨a1,n1,c1,rfl,h1,b1⟩
   obtain⟨s0,s1,s2,s3⟩:=bx_ (ac_ HAo.out b1) (ac_ HBo.out b1)
   have HR1:=hd_ (ac_ HRo.out b1)
   have hn1:n1≤209715200001:=by rw[←h1.len];exact hpl.out
   have H1:=hd_ h1
   have HV:Hid (zval nb (val la - val lb+(val lb - val la))=zval na (val la)+zval nb (val lb)):=hd_ (by rw[Nat.sub_eq_zero_of_le (Nat.le_of_lt Hlt.out),Nat.zero_add];exact jc_ Hne.out Hlt.out)
   clear h1 HAo HBo HRo Ha Hb
   generalize cmpI (val la) (val lb)=cc at *
   go_wp2_with fail
   refine (d9_ nb a1 n1 c1 _ _ H1.out (by omega)).mono ?_
   rintro e w2 ⟨a2,n2,c2,rfl,h2,b2⟩
   clear s0 s1 s2 s3
   have hRb:=ac_ HR1.out b2
   have r0:=af_ hRb 0
   have r1:=af_ hRb 1
   have f0:=ad_ hRb 0
   have f1:=ad_ hRb 1
   simp only[List.getElem?_toArray,List.getElem?_cons_zero,List.getElem?_cons_succ] at r0 r1
   have hBe:=hd_ (ab_ HB.out (ab_ b1 b2))
   have H2:=hd_ h2
   have hl2:=hd_ hRb
   have HF:=hd_ (H2.out.stored2 hl2.out (zneg (zval nb (val la - val lb+(val lb - val la)))) (.slice a2 n2 c2))
   have HG:=hd_ (a4_ hl2.out (.bool (zneg (zval nb (val la - val lb+(val lb - val la))))) (.slice a2 n2 c2))
   have HB2:=hd_ (an_ hBe.out (show w.heap.size≤w.heap.size+1+1 by omega) (.bool (zneg (zval nb (val la - val lb+(val lb - val la))))) (.slice a2 n2 c2))
   clear hRb h2 b1 b2 hBe
   rw[HV.out] at HF HG HB2
   rw[HV.out]
   generalize zval na (val la)+zval nb (val lb)=z at *
   unfold whV
   go_wp2
   refine bodyPost_ret (results_cell_row Tryz.results88 _ _ (w.heap.size+1+1) 42 #[.bool (zneg z),.slice a2 n2 c2] (0,0) _ rfl HG.out Tryz.underlying42 rfl (by kernel_rfl)) rfl ?_
   exact⟨a2,n2,c2,rfl,HF.out,HB2.out⟩
  ·have hc:¬cmpI (val la) (val lb) < 0:=by unfold cmpI;split <;> (try split) <;> omega
   have Hle:Hid (val lb≤val la):=hd_ (by omega)
   clear hlt
   go_wp2_with fail
   refine (natSaid.gap a n cap la b m cap' lb _ Ha.out Hb.out (by omega) (by omega)).mono ?_
   rintro e w1 ⟨a1,n1,c1,rfl,h1,b1⟩
   obtain⟨s0,s1,s2,s3⟩:=bx_ (ac_ HAo.out b1) (ac_ HBo.out b1)
   have HR1:=hd_ (ac_ HRo.out b1)
   have hn1:n1≤209715200001:=by rw[←h1.len];exact hpl.out
   have H1:=hd_ h1
   have HV:Hid (zval na (val la - val lb+(val lb - val la))=zval na (val la)+zval nb (val lb)):=hd_ (by rw[Nat.sub_eq_zero_of_le Hle.out,Nat.add_zero];exact jj_ Hne.out Hle.out)
   clear h1 HAo HBo HRo Ha Hb
   generalize cmpI (val la) (val lb)=cc at *
   go_wp2_with fail
   refine (d9_ na a1 n1 c1 _ _ H1.out (by omega)).mono ?_
   rintro e w2 ⟨a2,n2,c2,rfl,h2,b2⟩
   clear s0 s1 s2 s3
   have hRb:=ac_ HR1.out b2
   have r0:=af_ hRb 0
   have r1:=af_ hRb 1
   have f0:=ad_ hRb 0
   have f1:=ad_ hRb 1
   simp only[List.getElem?_toArray,List.getElem?_cons_zero,List.getElem?_cons_succ] at r0 r1
   have hBe:=hd_ (ab_ HB.out (ab_ b1 b2))
   have H2:=hd_ h2
   have hl2:=hd_ hRb
   have HF:=hd_ (H2.out.stored2 hl2.out (zneg (zval na (val la - val lb+(val lb - val la)))) (.slice a2 n2 c2))
   have HG:=hd_ (a4_ hl2.out (.bool (zneg (zval na (val la - val lb+(val lb - val la))))) (.slice a2 n2 c2))
   have HB2:=hd_ (an_ hBe.out (show w.heap.size≤w.heap.size+1+1 by omega) (.bool (zneg (zval na (val la - val lb+(val lb - val la))))) (.slice a2 n2 c2))
   clear hRb h2 b1 b2 hBe
   rw[HV.out] at HF HG HB2
   rw[HV.out]
   generalize zval na (val la)+zval nb (val lb)=z at *
   unfold whV
   go_wp2
   refine bodyPost_ret (results_cell_row Tryz.results88 _ _ (w.heap.size+1+1) 42 #[.bool (zneg z),.slice a2 n2 c2] (0,0) _ rfl HG.out Tryz.underlying42 rfl (by kernel_rfl)) rfl ?_
   exact⟨a2,n2,c2,rfl,HF.out,HB2.out⟩
theorem whole_of(z:Int)(w:World)(hz:hi_ z):Calls Tryz.prog 96 #[.int .i64 z] w (LstZ z w):=by
 unfold hi_ at hz
 by_cases hlt:z < 0
 ·skip
  have HA:Hid (zval true z.natAbs=z):=hd_ (by unfold zval;simp;omega)
  have hv:((z.natAbs:Nat):Int) = -z:=by omega
  have hvb:z.natAbs≤18446744073709551615:=by omega
  generalize z.natAbs=v at *
  have hw:IntKind.u64.wrap (-IntKind.u64.wrap z)=(v:Int):=by rw[IntKind.wrap_u64,IntKind.wrap_u64];omega
  go_enter Tryz.func96,Tryz.ntmps96
  go_wp2_with fail
  rw[←hv]
  refine (natSaid.of v _ hvb).mono ?_
  rintro e w1 ⟨a1,n1,c1,rfl,h1,b1⟩
  have hn1:n1≤2:=by rw[←h1.len];exact bn_ (by omega)
  have hR:=t9_ w w1 _ _ b1
  have H1:=hd_ h1
  go_wp2_with fail
  refine (d9_ true a1 n1 c1 _ _ H1.out (by omega)).mono ?_
  rintro e w2 ⟨a2,n2,c2,rfl,h2,b2⟩
  have hRb:=ac_ hR b2
  have r0:=af_ hRb 0
  have r1:=af_ hRb 1
  have f0:=ad_ hRb 0
  have f1:=ad_ hRb 1
  simp only[List.getElem?_toArray,List.getElem?_cons_zero,List.getElem?_cons_succ] at r0 r1
  have hBe:=hd_ (ab_ (aa_ w _) (ab_ b1 b2))
  have H2:=hd_ h2
  have hl2:=hd_ hRb
  have HF:=hd_ (H2.out.stored2 hl2.out (zneg (zval true v)) (.slice a2 n2 c2))
  have HG:=hd_ (a4_ hl2.out (.bool (zneg (zval true v))) (.slice a2 n2 c2))
  have HB2:=hd_ (an_ hBe.out (show w.heap.size≤w.heap.size by omega) (.bool (zneg (zval true v))) (.slice a2 n2 c2))
  clear hRb h2 b1 b2 hBe hR h1
  rw[HA.out] at HF HG HB2
  rw[HA.out]
  generalize hzz:zneg z=zb at *
  have Hzz:=hd_ hzz
  clear hzz
  unfold whV
  go_wp2
  refine bodyPost_ret (results_cell_row Tryz.results96 _ _ (w.heap.size) 42 #[.bool zb,.slice a2 n2 c2] (0,0) _ rfl HG.out Tryz.underlying42 rfl (by kernel_rfl)) rfl ?_
  exact⟨a2,n2,c2,by rw[Hzz.out];rfl,HF.out,HB2.out⟩
 ·skip
  have HA:Hid (zval false z.natAbs=z):=hd_ (by unfold zval;simp;omega)
  have hv:((z.natAbs:Nat):Int)=z:=by omega
  have hvb:z.natAbs≤18446744073709551615:=by omega
  generalize z.natAbs=v at *
  have hw:IntKind.u64.wrap z=(v:Int):=by rw[IntKind.wrap_u64];omega
  go_enter Tryz.func96,Tryz.ntmps96
  go_wp2_with fail
  rw[←hv]
  refine (natSaid.of v _ hvb).mono ?_
  rintro e w1 ⟨a1,n1,c1,rfl,h1,b1⟩
  have hn1:n1≤2:=by rw[←h1.len];exact bn_ (by omega)
  have hR:=t9_ w w1 _ _ b1
  have H1:=hd_ h1
  go_wp2_with fail
  refine (d9_ false a1 n1 c1 _ _ H1.out (by omega)).mono ?_
  rintro e w2 ⟨a2,n2,c2,rfl,h2,b2⟩
  have hRb:=ac_ hR b2
  have r0:=af_ hRb 0
  have r1:=af_ hRb 1
  have f0:=ad_ hRb 0
  have f1:=ad_ hRb 1
  simp only[List.getElem?_toArray,List.getElem?_cons_zero,List.getElem?_cons_succ] at r0 r1
  have hBe:=hd_ (ab_ (aa_ w _) (ab_ b1 b2))
  have H2:=hd_ h2
  have hl2:=hd_ hRb
  have HF:=hd_ (H2.out.stored2 hl2.out (zneg (zval false v)) (.slice a2 n2 c2))
  have HG:=hd_ (a4_ hl2.out (.bool (zneg (zval false v))) (.slice a2 n2 c2))
  have HB2:=hd_ (an_ hBe.out (show w.heap.size≤w.heap.size by omega) (.bool (zneg (zval false v))) (.slice a2 n2 c2))
  clear hRb h2 b1 b2 hBe hR h1
  rw[HA.out] at HF HG HB2
  rw[HA.out]
  generalize hzz:zneg z=zb at *
  have Hzz:=hd_ hzz
  clear hzz
  unfold whV
  go_wp2
  refine bodyPost_ret (results_cell_row Tryz.results96 _ _ (w.heap.size) 42 #[.bool zb,.slice a2 n2 c2] (0,0) _ rfl HG.out Tryz.underlying42 rfl (by kernel_rfl)) rfl ?_
  exact⟨a2,n2,c2,by rw[Hzz.out];rfl,HF.out,HB2.out⟩
def Two (p q:List Nat) (ok:Bool) (w:World) (e:Ending) (w':World):Prop:=
 ∃(a:OA_) (n cap:Nat) (b:OA_) (m cap':Nat),e=.returned (.tuple #[.slice a n cap,.slice b m cap',.bool ok])∧Wd w' a n cap p∧Wd w' b m cap' q∧Below w.heap.size w w'
theorem dg_one{v:Nat}(h:(dg v).length=1):atw (dg v) 0=v:=by
 have h1:=rp_ (l:=dg v) (by omega)
 rw[a1_,h8_ (l:=dg v) (i:=1) (by omega)] at h1
 omega
theorem o4_(a:OA_)(n cap:Nat)(b:OA_)(m cap':Nat)(lb:List Nat)(w:World)(hb:Wd w b m cap' lb)(hm:m≤524288000000)(h0:Hid (val lb=0)) :
 Calls Tryz.prog 153 #[.slice a n cap,.slice b m cap'] w (Two [] [] false w):=by
 go_enter Tryz.func153,Tryz.ntmps153
 go_wp2_with fail
 refine (natSaid.norm _ _ _ _ _ hb (by omega)).mono ?_
 rintro e w1 ⟨b1,M,c1,rfl,h1,hB1⟩
 rw[h0.out,cm_] at h1
 obtain rfl:M=0:=h1.len.symm
 go_wp2
 go_ret3
 exact⟨_,_,_,_,_,_,rfl,Wd.ofNil _,Wd.ofNil _,hB1⟩
theorem k0_(a:OA_)(n cap:Nat)(la:List Nat)(b:OA_)(m cap':Nat)(lb:List Nat)(w:World)(ha:Wd w a n cap la)(hb:Wd w b m cap' lb)(hn:n≤524288000000)(hm:m≤524288000000)(h0:Hid (val lb≠0)) :
 Calls Tryz.prog 153 #[.slice a n cap,.slice b m cap'] w (Two (dg (val la / val lb)) (dg (val la % val lb)) true w):=by
 have hM:(dg (val lb)).length≤m:=hb.trim_le
 have Ha:=hd_ ha
 clear ha
 go_enter Tryz.func153,Tryz.ntmps153
 go_wp2_with fail
 refine (natSaid.norm _ _ _ _ _ hb (by omega)).mono ?_
 rintro e w1 ⟨b1,M,c1,rfl,h1,hB1⟩
 have HM:Hid ((dg (val lb)).length=M):=hd_ h1.len
 have hMn:M≤524288000000:=by have:=HM.out;omega
 have hM0:M≠0:=fun h=>h0.out (dg_nil_iff.1 (HM.out.trans h))
 have hMb:((M:Int) == 0)=false:=by simp[hM0]
 have H1:=hd_ h1
 have Ha1:=Ha.l_ hB1
 generalize hvb:val lb=vb at *
 clear h1 hb hM Ha hvb
 have Hv:Hid (val (dg vb)=vb):=hd_ (a1_ _)
 go_wp2_with fail
 refine (natSaid.cmp _ _ _ _ _ _ _ _ _ Ha1.out H1.out (by omega) (by omega)).mono ?_
 rintro e w2 ⟨rfl,hB2⟩
 rw[Hv.out]
 have Ha2:=Ha1.l_ hB2
 have H2:=H1.l_ hB2
 have hB12:=ab_ hB1 hB2
 clear H1 Ha1 hB1 hB2
 by_cases hlt:val la < vb
 ·have hc:cmpI (val la) vb < 0:=by rw[f2_ hlt];omega
  have Hq:Hid (val la / vb=0∧val la % vb=val la):=hd_ ⟨Nat.div_eq_of_lt hlt,Nat.mod_eq_of_lt hlt⟩
  clear hlt
  generalize cmpI (val la) vb=c at *
  go_wp2_with fail
  refine (natSaid.norm _ _ _ _ _ Ha2.out (by omega)).mono ?_
  rintro e w3 ⟨a3,n3,c3,rfl,h3,hB3⟩
  have H3:=hd_ h3
  clear h3
  go_wp2
  go_ret3
  exact⟨_,_,_,_,_,_,rfl,by rw[Hq.out.1,cm_];exact Wd.ofNil _,by rw[Hq.out.2];exact H3.out,ab_ hB12 hB3⟩
 ·have hc:¬cmpI (val la) vb < 0:=by unfold cmpI;split <;> (try split) <;> omega
  have Hle:Hid (vb≤val la):=hd_ (by omega)
  clear hlt
  generalize cmpI (val la) vb=c at *
  by_cases hM1:M=1
  ·subst hM1
   obtain⟨bb,ob,rfl,hcb⟩:=H2.out.at (by omega)
   have hcb0:=hcb 0 (by omega)
   rw[dg_one HM.out,Nat.add_zero] at hcb0
   have hvw:vb < 4294967296:=by have:=cs_ vb;rw[HM.out] at this;simpa using this
   have hv0:0 < vb:=Nat.pos_of_ne_zero h0.out
   clear hcb
   go_wp2_with fail
   refine (quot_word _ _ _ _ vb _ Ha2.out (by omega) hvw hv0).mono ?_
   rintro e w3 ⟨a3,n3,c3,rfl,h3,hB3⟩
   have hrw:val la % vb < 4294967296:=Nat.lt_trans (Nat.mod_lt _ hv0) hvw
   have H3:=hd_ h3
   obtain⟨r,hr⟩:∃r,r=val la % vb:=⟨_,rfl⟩
   rw[←hr] at hrw ⊢
   have Hr:=hd_ hr
   clear h3 hr
   go_wp2_with fail
   refine (natSaid.of r _ (by omega)).mono ?_
   rintro e w4 ⟨a4,n4,c4,rfl,h4,hB4⟩
   have H4:=hd_ h4
   have H3b:=H3.l_ hB4
   clear h4
   go_wp2
   go_ret3
   exact⟨_,_,_,_,_,_,rfl,H3b.out,by rw[←Hr.out];exact H4.out,ab_ hB12 (ab_ hB3 hB4)⟩
  ·have hMc:((M:Int) == 1)=false:=by simp;omega
   go_wp2_with fail
   refine (quot_long _ _ _ _ _ _ _ vb _ Ha2.out H2.out (by omega) (by omega) (by omega) Hle).mono ?_
   rintro e w3 ⟨a3,n3,c3,b3,m3,d3,rfl,h3,k3,hB3⟩
   have H3:=hd_ h3
   have K3:=hd_ k3
   clear h3 k3
   go_wp2
   go_ret3
   exact⟨_,_,_,_,_,_,rfl,H3.out,K3.out,ab_ hB12 hB3⟩
theorem ht_(a:OA_)(n cap:Nat)(b:OA_)(m cap':Nat)(lb:List Nat)(w:World)(hb:Wd w b m cap' lb)(hm:m≤524288000000)(h0:Hid (val lb=0)) :
 Calls Tryz.prog 128 #[.slice a n cap,.slice b m cap'] w (Lst2 [] (.bool false) w):=by
 go_enter Tryz.func128,Tryz.ntmps128
 go_wp2_with fail
 refine (o4_ _ _ _ _ _ _ _ _ hb hm h0).mono ?_
 rintro e w1 ⟨a1,n1,c1,b1,m1,d1,rfl,h1,k1,hB1⟩
 go_wp2
 go_ret2
 exact⟨_,_,_,rfl,Wd.ofNil _,hB1⟩
def exactB (v x:Nat):Bool:=decide (v % x=0)
def ln_ (v x:Nat):List Nat:=if v % x=0 then dg (v / x) else []
theorem nk_(a:OA_)(n cap:Nat)(la:List Nat)(b:OA_)(m cap':Nat)(lb:List Nat)(w:World)(ha:Wd w a n cap la)(hb:Wd w b m cap' lb)(hn:n≤524288000000)(hm:m≤524288000000)(h0:Hid (val lb≠0)) :
 Calls Tryz.prog 128 #[.slice a n cap,.slice b m cap'] w (Lst2 (ln_ (val la) (val lb)) (.bool (exactB (val la) (val lb))) w):=by
 have hlen:(dg (val la % val lb)).length≤m:=by
  rw[←hb.len]
  exact Nat.le_trans (aw_ (Nat.le_of_lt (Nat.mod_lt _ (Nat.pos_of_ne_zero h0.out)))) (dc_ hb.ok)
 go_enter Tryz.func128,Tryz.ntmps128
 go_wp2_with fail
 refine (k0_ _ _ _ _ _ _ _ _ _ ha hb hn hm h0).mono ?_
 rintro e w1 ⟨a1,n1,c1,b1,m1,d1,rfl,h1,k1,hB1⟩
 have hm1:m1≤524288000000:=by rw[←k1.len];omega
 have H1:=hd_ h1
 have K1:=hd_ k1
 clear h1 k1 ha hb hlen
 have Hv:Hid (val (dg (val la % val lb))=val la % val lb):=hd_ (a1_ _)
 have HL:Hid (ln_ (val la) (val lb)=if val la % val lb=0 then dg (val la / val lb) else []):=hd_ rfl
 have HB:Hid (exactB (val la) (val lb)=decide (val la % val lb=0)):=hd_ rfl
 go_wp2_with fail
 refine (natSaid.zero _ _ _ _ _ K1.out (by omega)).mono ?_
 rintro e w2 ⟨rfl,hB2⟩
 rw[Hv.out]
 have H2:=H1.l_ hB2
 by_cases hz:val la % val lb=0
 ·rw[hz] at HL HB ⊢
  have HL2:Hid (ln_ (val la) (val lb)=dg (val la / val lb)):=hd_ HL.out
  clear hz HL
  go_wp2
  go_ret2
  exact⟨_,_,_,by rw[HB.out];rfl,by rw[HL2.out];exact H2.out,ab_ hB1 hB2⟩
 ·have HL2:Hid (ln_ (val la) (val lb)=[]):=hd_ (by rw[HL.out,if_neg hz])
  have hd:decide (val la % val lb=0)=false:=decide_eq_false hz
  rw[hd]
  rw[hd] at HB
  clear hz hd HL
  go_wp2
  go_ret2
  exact⟨_,_,_,by rw[HB.out];rfl,by rw[HL2.out];exact Wd.ofNil _,ab_ hB1 hB2⟩






def Pair2 (p q:List Nat) (w:World) (e:Ending) (w':World):Prop:=
 ∃(a:OA_) (n cap:Nat) (b:OA_) (m cap':Nat),e=.returned (.tuple #[.slice a n cap,.slice b m cap'])∧Wd w' a n cap p∧Wd w' b m cap' q∧Below w.heap.size w w'
structure CommonSaid:Prop where
def ev_ (A B x z:Nat):Nat:=x * A - z * B+(z * B - x * A)
theorem gapOf_two(A B:Nat):ev_ A B 0 1=B:=by unfold ev_;omega
structure Way (α β a b ya yb na nb:Nat):Prop where
 side:(ya * α=a+yb * β∧nb * β=b+na * α∧ya * nb=yb * na+1)∨(yb * β=a+ya * α∧na * α=b+nb * β∧yb * na=ya * nb+1)
 sum:nb * a+yb * b=α
 le:na≤nb
 les:ya+na≤yb+nb
 pos:1≤nb
 ord:b≤a
theorem way_start{α β:Nat}(h:β≤α):Way α β α β 1 0 0 1:=⟨.inl ⟨by omega,by omega,by omega⟩,by omega,by omega,by omega,by omega,h⟩
theorem to_{α β a b ya yb na nb:Nat}(h:Way α β a b ya yb na nb)(hb:nb≤b):Way α β b (a % b) na nb (ya+a / b * na) (yb+a / b * nb):=by
 have h0:0 < b:=by have:=h.pos;omega
 have hq:=Nat.div_add_mod a b
 have hr:=Nat.mod_lt a h0
 have hq1:1≤a / b:=(Nat.le_div_iff_mul_le h0).2 (by have:=h.ord;omega)
 generalize a / b=q at *
 generalize a % b=r at *
 subst hq
 have e1:b * q * nb=q * nb * b:=by rw[Nat.mul_comm b q,Nat.mul_assoc,Nat.mul_comm b nb,←Nat.mul_assoc]
 refine ⟨?_,?_,?_,?_,?_,by omega⟩
 ·have p1:∀z:Nat,q * na * z=q * (na * z):=fun z=>Nat.mul_assoc _ _ _
  have p2:∀z:Nat,q * nb * z=q * (nb * z):=fun z=>Nat.mul_assoc _ _ _
  have p3:nb * (q * na)=q * (nb * na):=by rw[Nat.mul_left_comm]
  have p4:na * (q * nb)=q * (nb * na):=by rw[Nat.mul_left_comm,Nat.mul_comm na nb]
  have p5:b * q=q * b:=Nat.mul_comm _ _
  have p6:na * yb=yb * na:=Nat.mul_comm _ _
  have p7:nb * ya=ya * nb:=Nat.mul_comm _ _
  rcases h.side with ⟨h1,h2,h3⟩ | ⟨h1,h2,h3⟩
  ·have h4:q * (nb * β)=q * b+q * (na * α):=by rw[h2,Nat.mul_add]
   right
   refine ⟨by omega,?_,?_⟩
   ·rw[Nat.add_mul,Nat.add_mul,p1,p2];omega
   ·rw[Nat.mul_add,Nat.mul_add,p3,p4];omega
  ·have h4:q * (na * α)=q * b+q * (nb * β):=by rw[h2,Nat.mul_add]
   left
   refine ⟨by omega,?_,?_⟩
   ·rw[Nat.add_mul,Nat.add_mul,p1,p2];omega
   ·rw[Nat.mul_add,Nat.mul_add,p3,p4];omega
 ·have h1:=h.sum
  rw[Nat.add_mul,←h1,Nat.mul_add nb,show nb * (b * q)=q * nb * b by rw[←e1,Nat.mul_comm]]
  omega
 ·obtain⟨k,rfl⟩:∃k,q=k+1:=⟨q - 1,by omega⟩
  have h1:k * na≤k * nb:=Nat.mul_le_mul_left _ h.le
  have h2:=h.les
  rw[Nat.add_mul,Nat.add_mul];omega
 ·have h1:q * na≤q * nb:=Nat.mul_le_mul_left _ h.le
  have h2:=h.les
  have h3:=h.le
  omega
 ·have h1:1 * nb≤q * nb:=Nat.mul_le_mul_right _ hq1
  have h2:=h.pos
  omega
theorem way_true{A B M a b ya yb na nb:Nat}(hM:0 < M)(h:Way (A / M) (B / M) a b ya yb na nb)(hb:nb≤b)(hab:yb+nb≤a - b) :
 ev_ A B na nb < ev_ A B ya yb∧Nat.gcd (ev_ A B ya yb) (ev_ A B na nb)=Nat.gcd A B:=by
 have hA:=Nat.div_add_mod A M
 have hB:=Nat.div_add_mod B M
 have hA0:=Nat.mod_lt A hM
 have hB0:=Nat.mod_lt B hM
 generalize A / M=α at *
 generalize B / M=β at *
 generalize A % M=A0 at *
 generalize B % M=B0 at *
 obtain⟨d,rfl⟩:∃d,a=b+d:=⟨a - b,by have:=h.ord;omega⟩
 have hd:yb+nb≤d:=by omega
 have hle:=h.le
 have hles:=h.les
 have hpos:=h.pos
 have k1:na * A0≤b * M:=Nat.mul_le_mul (by omega) (by omega)
 have k2:nb * B0≤b * M:=Nat.mul_le_mul (by omega) (by omega)
 have k3:(yb+nb) * M≤d * M:=Nat.mul_le_mul_right _ hd
 have k4:(yb+nb) * B0 < (yb+nb) * M:=Nat.mul_lt_mul_of_pos_left hB0 (by omega)
 have k5:(ya+na) * A0≤(yb+nb) * A0:=Nat.mul_le_mul_right _ hles
 have k6:(yb+nb) * A0 < (yb+nb) * M:=Nat.mul_lt_mul_of_pos_left hA0 (by omega)
 simp only[Nat.add_mul] at k3 k4 k5 k6
 have x1:∀z:Nat,z * (M * α+A0)=M * (z * α)+z * A0:=fun z=>by rw[Nat.mul_add,Nat.mul_left_comm]
 have x2:∀z:Nat,z * (M * β+B0)=M * (z * β)+z * B0:=fun z=>by rw[Nat.mul_add,Nat.mul_left_comm]
 have y1:=x1 ya
 have y2:=x2 yb
 have y3:=x1 na
 have y4:=x2 nb
 rw[hA] at y1 y3
 rw[hB] at y2 y4
 have hbM:b * M=M * b:=Nat.mul_comm _ _
 have hdM:d * M=M * d:=Nat.mul_comm _ _
 rcases h.side with ⟨h1,h2,h3⟩ | ⟨h1,h2,h3⟩
 ·have z1:M * (ya * α)=M * b+M * d+M * (yb * β):=by rw[h1,Nat.mul_add,Nat.mul_add]
  have z2:M * (nb * β)=M * b+M * (na * α):=by rw[h2,Nat.mul_add]
  have g1:yb * B≤ya * A:=by omega
  have g2:na * A≤nb * B:=by omega
  have r1:ev_ A B ya yb=ya * A - yb * B:=by unfold ev_;omega
  have r2:ev_ A B na nb=nb * B - na * A:=by unfold ev_;omega
  rw[r1,r2]
  refine ⟨by omega,?_⟩
  obtain⟨R,hR⟩:∃R,ya * A=R+yb * B:=⟨ya * A - yb * B,by omega⟩
  obtain⟨S,hS⟩:∃S,nb * B=S+na * A:=⟨nb * B - na * A,by omega⟩
  rw[hR,hS,Nat.add_sub_cancel,Nat.add_sub_cancel]
  have eA:A=nb * R+yb * S:=by
   have e1:nb * (ya * A)=nb * R+nb * (yb * B):=by rw[hR,Nat.mul_add]
   have e2:yb * (nb * B)=yb * S+yb * (na * A):=by rw[hS,Nat.mul_add]
   have e3:nb * (yb * B)=yb * (nb * B):=Nat.mul_left_comm _ _ _
   have e4:nb * (ya * A)=yb * (na * A)+A:=by rw[←Nat.mul_assoc,Nat.mul_comm nb ya,h3,Nat.add_mul,Nat.mul_assoc,Nat.one_mul]
   omega
  have eB:B=na * R+ya * S:=by
   have e1:na * (ya * A)=na * R+na * (yb * B):=by rw[hR,Nat.mul_add]
   have e2:ya * (nb * B)=ya * S+ya * (na * A):=by rw[hS,Nat.mul_add]
   have e3:na * (ya * A)=ya * (na * A):=Nat.mul_left_comm _ _ _
   have e4:ya * (nb * B)=na * (yb * B)+B:=by rw[←Nat.mul_assoc,h3,Nat.add_mul,Nat.one_mul,Nat.mul_comm yb na,Nat.mul_assoc]
   omega
  apply Nat.dvd_antisymm
  ·have d1:=Nat.gcd_dvd_left R S
   have d2:=Nat.gcd_dvd_right R S
   refine Nat.dvd_gcd ?_ ?_
   ·conv=>rhs;rw[eA]
    exact Nat.dvd_add (Nat.dvd_mul_left_of_dvd d1 _) (Nat.dvd_mul_left_of_dvd d2 _)
   ·conv=>rhs;rw[eB]
    exact Nat.dvd_add (Nat.dvd_mul_left_of_dvd d1 _) (Nat.dvd_mul_left_of_dvd d2 _)
  ·have d1:=Nat.gcd_dvd_left A B
   have d2:=Nat.gcd_dvd_right A B
   refine Nat.dvd_gcd ?_ ?_
   ·exact (Nat.dvd_add_iff_left (Nat.dvd_mul_left_of_dvd d2 yb)).2 (hR▸Nat.dvd_mul_left_of_dvd d1 ya)
   ·exact (Nat.dvd_add_iff_left (Nat.dvd_mul_left_of_dvd d1 na)).2 (hS▸Nat.dvd_mul_left_of_dvd d2 nb)
 ·have z1:M * (yb * β)=M * b+M * d+M * (ya * α):=by rw[h1,Nat.mul_add,Nat.mul_add]
  have z2:M * (na * α)=M * b+M * (nb * β):=by rw[h2,Nat.mul_add]
  have g1:ya * A≤yb * B:=by omega
  have g2:nb * B≤na * A:=by omega
  have r1:ev_ A B ya yb=yb * B - ya * A:=by unfold ev_;omega
  have r2:ev_ A B na nb=na * A - nb * B:=by unfold ev_;omega
  rw[r1,r2]
  refine ⟨by omega,?_⟩
  obtain⟨R,hR⟩:∃R,yb * B=R+ya * A:=⟨yb * B - ya * A,by omega⟩
  obtain⟨S,hS⟩:∃S,na * A=S+nb * B:=⟨na * A - nb * B,by omega⟩
  rw[hR,hS,Nat.add_sub_cancel,Nat.add_sub_cancel]
  have eA:A=nb * R+yb * S:=by
   have e1:nb * (yb * B)=nb * R+nb * (ya * A):=by rw[hR,Nat.mul_add]
   have e2:yb * (na * A)=yb * S+yb * (nb * B):=by rw[hS,Nat.mul_add]
   have e3:nb * (yb * B)=yb * (nb * B):=Nat.mul_left_comm _ _ _
   have e4:yb * (na * A)=nb * (ya * A)+A:=by rw[←Nat.mul_assoc,h3,Nat.add_mul,Nat.one_mul,Nat.mul_comm ya nb,Nat.mul_assoc]
   omega
  have eB:B=na * R+ya * S:=by
   have e1:na * (yb * B)=na * R+na * (ya * A):=by rw[hR,Nat.mul_add]
   have e2:ya * (na * A)=ya * S+ya * (nb * B):=by rw[hS,Nat.mul_add]
   have e3:na * (ya * A)=ya * (na * A):=Nat.mul_left_comm _ _ _
   have e4:na * (yb * B)=ya * (nb * B)+B:=by rw[←Nat.mul_assoc,Nat.mul_comm na yb,h3,Nat.add_mul,Nat.mul_assoc,Nat.one_mul]
   omega
  apply Nat.dvd_antisymm
  ·have d1:=Nat.gcd_dvd_left R S
   have d2:=Nat.gcd_dvd_right R S
   refine Nat.dvd_gcd ?_ ?_
   ·conv=>rhs;rw[eA]
    exact Nat.dvd_add (Nat.dvd_mul_left_of_dvd d1 _) (Nat.dvd_mul_left_of_dvd d2 _)
   ·conv=>rhs;rw[eB]
    exact Nat.dvd_add (Nat.dvd_mul_left_of_dvd d1 _) (Nat.dvd_mul_left_of_dvd d2 _)
  ·have d1:=Nat.gcd_dvd_left A B
   have d2:=Nat.gcd_dvd_right A B
   refine Nat.dvd_gcd ?_ ?_
   ·exact (Nat.dvd_add_iff_left (Nat.dvd_mul_left_of_dvd d1 ya)).2 (hR▸Nat.dvd_mul_left_of_dvd d2 yb)
   ·exact (Nat.dvd_add_iff_left (Nat.dvd_mul_left_of_dvd d2 nb)).2 (hS▸Nat.dvd_mul_left_of_dvd d1 na)
structure Good (A B xa xb ya yb:Nat):Prop where
 lt:ev_ A B ya yb < ev_ A B xa xb
 gcd:Nat.gcd (ev_ A B xa xb) (ev_ A B ya yb)=Nat.gcd A B
 second:ev_ A B ya yb≤B
 first:xb=0∨ev_ A B xa xb≤B
structure Heads (A B M a b xa xb ya yb na nb:Nat):Prop where
 way:Way (A / M) (B / M) a b ya yb na nb
 wx:xa < 4294967296∧xb < 4294967296
 wy:ya < 4294967296∧yb < 4294967296
 wn:na < 18446744073709551616∧nb < 18446744073709551616
 here:(xb=0∧ya=1∧yb=0∧na=0∧nb=1)∨Good A B xa xb ya yb
theorem s2_{A B M:Nat}(h:B≤A):Heads A B M (A / M) (B / M) 0 0 1 0 0 1:=⟨way_start (Nat.div_le_div_right h),by omega,by omega,by omega,.inl ⟨rfl,rfl,rfl,rfl,rfl⟩⟩
theorem ld_{A B M a b xa xb ya yb na nb:Nat}(h:Heads A B M a b xa xb ya yb na nb)(hα:A / M < 18446744073709551616)(hb:nb≤b):na < 4294967296∧nb < 4294967296:=by
 have h1:=h.way.sum
 have h2:=h.way.le
 have h3:=h.way.ord
 have h4:nb * nb≤nb * a:=Nat.mul_le_mul_left _ (by omega)
 have h5:nb < 4294967296:=by
  rcases Nat.lt_or_ge nb 4294967296 with h6 | h6
  ·exact h6
  ·have h7:4294967296 * 4294967296≤nb * nb:=Nat.mul_le_mul h6 h6
   omega
 omega
theorem na_{A B M a b xa xb ya yb na nb:Nat}(h:Heads A B M a b xa xb ya yb na nb)(hα:A / M < 18446744073709551616)(hb:nb≤b) :
 a / b * na < 18446744073709551616∧a / b * nb < 18446744073709551616∧ya+a / b * na < 18446744073709551616∧yb+a / b * nb < 18446744073709551616:=by
 have h1:=to_ h.way hb
 have h2:=h1.sum
 have h3:=h1.le
 have h4:=h.way.pos
 have h5:(yb+a / b * nb) * 1≤(yb+a / b * nb) * b:=Nat.mul_le_mul_left _ (by omega)
 omega
theorem ul_{A B M a b xa xb ya yb na nb:Nat}(hM:0 < M)(h:Heads A B M a b xa xb ya yb na nb)(hα:A / M < 18446744073709551616)(hb:nb≤b)(hab:yb+nb≤a - b) :
 Heads A B M b (a % b) ya yb na nb (ya+a / b * na) (yb+a / b * nb):=by
 obtain⟨_,_,r3,r4⟩:=na_ h hα hb
 obtain⟨t1,t2⟩:=way_true hM h.way hb hab
 refine ⟨to_ h.way hb,h.wy,ld_ h hα hb,⟨r3,r4⟩,.inr ⟨t1,t2,?_,?_⟩⟩
 ·rcases h.here with ⟨_,rfl,rfl,rfl,rfl⟩ | g
  ·rw[gapOf_two];exact Nat.le_refl _
  ·have:=g.second;omega
 ·rcases h.here with ⟨_,rfl,rfl,rfl,rfl⟩ | g
  ·exact .inl rfl
  ·exact .inr g.second
theorem head_word{l:List Nat}{k s:Nat}(ho:okw l)(hs:s≤31)(hv:val l < 2 ^ (32 * (k+3) - s)) :
 atw l (k+2) * 4294967296+atw l (k+1) < 2 ^ (64 - s)∧atw l k / 2 ^ (32 - s) < 2 ^ s∧(atw l (k+2) * 4294967296+atw l (k+1)) * 2 ^ s+atw l k / 2 ^ (32 - s)=val l / 2 ^ (32 * k+(32 - s)):=by
 have e1:val l / 2 ^ (32 * k)=top l k:=(r2_ ho k).symm
 have e2:top l k < 2 ^ (96 - s):=by
  rw[←e1]
  rw[Nat.div_lt_iff_lt_mul (Nat.two_pow_pos _),←Nat.pow_add,show 96 - s+32 * k=32 * (k+3) - s by omega]
  exact hv
 have h1:top l k=atw l k+4294967296 * top l (k+1):=b4_ l k
 have h2:top l (k+1)=atw l (k+1)+4294967296 * top l (k+2):=b4_ l (k+1)
 have h3:top l (k+2)=atw l (k+2)+4294967296 * top l (k+3):=b4_ l (k+2)
 have h4:2 ^ (96 - s)≤(79228162514264337593543950336:Nat):=by
  rw[show (79228162514264337593543950336:Nat)=2 ^ 96 by decide]
  exact Nat.pow_le_pow_right (by decide) (by omega)
 have hw:=bk_ ho k
 have hP:2 ^ s * 2 ^ (32 - s)=(4294967296:Nat):=by rw[←Nat.pow_add,show s+(32 - s)=32 by omega]
 have hQ:2 ^ (64 - s) * 4294967296=2 ^ (96 - s):=by rw[show (4294967296:Nat)=2 ^ 32 by decide,←Nat.pow_add,show 64 - s+32=96 - s by omega]
 have e5:val l / 2 ^ (32 * k+(32 - s))=top l k / 2 ^ (32 - s):=by rw[Nat.pow_add,←Nat.div_div_eq_div_mul,e1]
 have hp:=Nat.two_pow_pos (32 - s)
 rw[e5]
 clear e1 e5 hv
 generalize 2 ^ (32 - s)=P at *
 generalize 2 ^ (96 - s)=Q at *
 generalize 2 ^ (64 - s)=R at *
 generalize 2 ^ s=S at *
 generalize atw l k=x0 at *
 generalize atw l (k+1)=x1 at *
 generalize atw l (k+2)=x2 at *
 generalize top l (k+3)=t3 at *
 generalize top l (k+2)=t2 at *
 generalize top l (k+1)=t1 at *
 generalize top l k=t0 at *
 have e3:t3=0:=by omega
 have e4:t0=(x2 * 4294967296+x1) * 4294967296+x0:=by omega
 refine ⟨by omega,?_,?_⟩
 ·rw[Nat.div_lt_iff_lt_mul hp,hP];exact hw
 ·have e6:(x2 * 4294967296+x1) * 4294967296=P * ((x2 * 4294967296+x1) * S):=by
   rw[←hP]
   generalize x2 * (S * P)+x1=H
   rw[Nat.mul_comm S P,Nat.mul_left_comm]
  rw[e4,e6,Nat.mul_add_div hp]
theorem head_room{l:List Nat}{n:Nat}(ho:okw l)(hl:l.length=n)(hn:3≤n)(h0:atw l (n - 1)≠0):val l < 2 ^ (32 * n - (32 - blen (atw l (n - 1)))):=by
 obtain⟨i,rfl⟩:∃i,n=i+1:=⟨n - 1,by omega⟩
 rw[Nat.add_sub_cancel] at h0 ⊢
 have h1:=kz_ ho (i:=i) (by rw[fk_ (by omega)]) h0
 have h2:=ka_ (val l)
 have h3:blen (atw l i)≤32:=blen_le.2 (bk_ ho i)
 rw[h1] at h2
 rw[show 32 * (i+1) - (32 - blen (atw l i))=32 * i+blen (atw l i) by omega]
 exact h2
theorem gx_{X Y:Nat}(h:Y≠0):Nat.gcd Y (X % Y)=Nat.gcd X Y∧X % Y < Y:=by
 refine ⟨?_,Nat.mod_lt _ (Nat.pos_of_ne_zero h)⟩
 rw[Nat.gcd_comm X Y,Nat.gcd_rec Y X,Nat.gcd_comm]
theorem v3_(x y:Nat)(hx:x < 18446744073709551616)(hy:y < 18446744073709551616):bits .or .u64 (x:Int) (y:Int)=((x ||| y:Nat):Int):=by
 have h1:(BitVec.ofInt 64 (x:Int)).toNat=x:=by rw[BitVec.ofInt_natCast,BitVec.toNat_ofNat];exact Nat.mod_eq_of_lt (by omega)
 have h2:(BitVec.ofInt 64 (y:Int)).toNat=y:=by rw[BitVec.ofInt_natCast,BitVec.toNat_ofNat];exact Nat.mod_eq_of_lt (by omega)
 have h3:x ||| y < 2 ^ 64:=Nat.or_lt_two_pow (by omega) (by omega)
 show IntKind.u64.wrap ((BitVec.ofInt 64 (x:Int) ||| BitVec.ofInt 64 (y:Int)).toNat:Int)=_
 rw[BitVec.toNat_or,h1,h2,IntKind.wrap_u64]
 omega
theorem or_high{h s y:Nat}(hh:h * 2 ^ s < 18446744073709551616)(hy:y < 2 ^ s)(hs:s≤64):bits .or .u64 ((h * 2 ^ s:Nat):Int) (y:Int)=((h * 2 ^ s+y:Nat):Int):=by
 have hy2:y < 18446744073709551616:=Nat.lt_of_lt_of_le hy (show 2 ^ s≤2 ^ 64 from Nat.pow_le_pow_right (by decide) hs)
 rw[v3_ _ _ hh hy2]
 have:=Nat.two_pow_add_eq_or_of_lt hy h
 rw[Nat.mul_comm h,this]
theorem iq_(a:OA_)(n cap k x:Nat)(l:List Nat)(w:World)(h:Wd w a n cap l)(hk:k≤9223372036854775807)(hx:Hid (x=atw l k)) :
 Calls Tryz.prog 171 #[.slice a n cap,.int .i64 (k:Int)] w fun e w'=>e=.returned (.int .u64 (x:Int))∧w=w':=by
 obtain⟨hb1,hb2⟩:=h.bound
 by_cases hlt:k < n
 ·obtain⟨b,off,rfl,hc⟩:=h.at (by omega)
  have hck:=hc k hlt
  have hw:=bk_ h.ok k
  rw[←hx.out] at hck hw
  clear hc h
  go_enter Tryz.func171,Tryz.ntmps171
  go_wp2
  go_ret
  exact⟨rfl,rfl⟩
 ·have ha:x=0:=by rw[hx.out];exact h8_ (by have:=h.len;omega)
  subst ha
  clear h
  go_enter Tryz.func171,Tryz.ntmps171
  go_wp2
  go_ret
  exact⟨rfl,rfl⟩
theorem bits_lz32(x:Nat)(w:World)(h1:x < 4294967296) :
 Calls Tryz.prog 162 #[.int .u32 (x:Int)] w fun e w'=>e=.returned (.int .i64 ((32 - blen x:Nat):Int))∧w=w':=by
 have hb:blen x≤32:=blen_le.2 (by omega)
 have Hb:=hd_ (ml_ (x:=x) (by omega))
 obtain⟨y,hy⟩:∃y,y=blen x:=⟨_,rfl⟩
 rw[←hy] at hb Hb ⊢
 obtain⟨z,hz⟩:∃z:Nat,32 - (y:Int)=(z:Int):=⟨32 - y,by omega⟩
 have Hz:Hid (z=32 - y):=hd_ (by omega)
 clear hy
 go_enter Tryz.func162,Tryz.ntmps162
 go_wp2_with fail
 refine (ni_ (x:Int) _ (by omega) (by omega)).mono ?_
 rintro e w' ⟨rfl,rfl⟩
 rw[Int.toNat_natCast,Hb.out]
 go_wp2
 go_ret
 exact⟨d2_ (by rw[←Hz.out]),rfl⟩
theorem sx_(a:OA_)(n cap k s:Nat)(l:List Nat)(w:World)(h:Wd w a n cap l)(hk:k≤1048576000000)(hs:s≤31)(hv:Hid (val l < 2 ^ (32 * (k+3) - s))) :
 Calls Tryz.prog 164 #[.slice a n cap,.int .i64 ((k+3:Nat):Int),.int .i64 (s:Int)] w fun e w'=>e=.returned (.int .u64 ((val l / 2 ^ (32 * k+(32 - s)):Nat):Int))∧∃q,w'=w.drewN q:=by
 obtain⟨t1,t2,t3⟩:=head_word h.ok hs hv.out
 have hx0:=bk_ h.ok k
 have hx1:=bk_ h.ok (k+1)
 have hx2:=bk_ h.ok (k+2)
 have Hw:=hd_ h
 obtain⟨p1,e1⟩:∃p1:Nat,((k+3:Nat):Int) - 1=(p1:Int):=⟨k+2,by omega⟩
 obtain⟨p2,e2⟩:∃p2:Nat,((k+3:Nat):Int) - 2=(p2:Int):=⟨k+1,by omega⟩
 obtain⟨p3,e3⟩:∃p3:Nat,((k+3:Nat):Int) - 3=(p3:Int):=⟨k,by omega⟩
 obtain rfl:p3=k:=by omega
 have f1:p1=p3+2:=by omega
 have f2:p2=p3+1:=by omega
 have hp1:p1≤9223372036854775807:=by omega
 have hp2:p2≤9223372036854775807:=by omega
 have hp3:p3≤9223372036854775807:=by omega
 rw[←f1,←f2] at t1 t3
 rw[←f1] at hx2
 rw[←f2] at hx1
 obtain⟨n3,hn3⟩:∃n3:Nat,n3=p3+3:=⟨_,rfl⟩
 rw[←hn3] at e1 e2 e3 ⊢
 have hn3b:n3≤1048576000003:=by omega
 clear f1 f2 h hv hn3 hk
 obtain⟨x0,y0⟩:∃x,x=atw l p3:=⟨_,rfl⟩
 obtain⟨x1,y1⟩:∃x,x=atw l p2:=⟨_,rfl⟩
 obtain⟨x2,y2⟩:∃x,x=atw l p1:=⟨_,rfl⟩
 rw[←y0] at hx0 t2 t3
 rw[←y1] at hx1 t1 t3
 rw[←y2] at hx2 t1 t3
 have Y0:=hd_ y0
 have Y1:=hd_ y1
 have Y2:=hd_ y2
 clear y0 y1 y2
 have o1:bits .or .u64 ((x2:Int) * 4294967296) (x1:Int)=(x2:Int) * 4294967296+(x1:Int):=k6_ (by omega) (by omega) (by omega) (by omega)
 obtain⟨hi,hhi⟩:∃hi:Nat,(x2:Int) * 4294967296+(x1:Int)=(hi:Int):=⟨x2 * 4294967296+x1,by omega⟩
 rw[hhi] at o1
 have f3:x2 * 4294967296+x1=hi:=by omega
 rw[f3] at t1 t3
 have hhb:hi < 18446744073709551616:=by omega
 obtain⟨r,hr⟩:∃r:Nat,(32:Int) - (s:Int)=(r:Int):=⟨32 - s,by omega⟩
 have hre:32 - s=r:=by omega
 rw[hre] at t2 t3 ⊢
 have hrb:r≤32:=by omega
 obtain⟨z,hz⟩:∃z:Nat,(x0:Int) / 2 ^ r=(z:Int):=⟨x0 / 2 ^ r,fx_ x0 r⟩
 have hze:x0 / 2 ^ r=z:=by have:=fx_ x0 r;omega
 rw[hze] at t2 t3
 have hzb:z < 4294967296:=by rw[←hze];exact nc_ hx0 r
 have t4:hi * 2 ^ s < 18446744073709551616:=by
  have h1:hi * 2 ^ s < 2 ^ (64 - s) * 2 ^ s:=Nat.mul_lt_mul_of_pos_right t1 (Nat.two_pow_pos s)
  rw[←Nat.pow_add,show 64 - s+s=64 by omega] at h1
  exact h1
 have o2:=or_high t4 t2 (by omega)
 rw[t3] at o2
 have t5:(hi:Int) * 2 ^ s=((hi * 2 ^ s:Nat):Int):=if_ hi s
 obtain⟨g,hg⟩:∃g,g=hi * 2 ^ s:=⟨_,rfl⟩
 rw[←hg] at t4 t5 o2
 have t6:(hi:Int) * 2 ^ s % 18446744073709551616=(g:Int):=by rw[t5];omega
 obtain⟨v,hv⟩:∃v,v=val l / 2 ^ (32 * p3+r):=⟨_,rfl⟩
 rw[←hv] at o2 ⊢
 clear hv hg t3 hze hre f3 t1 t2
 go_enter Tryz.func164,Tryz.ntmps164
 go_wp2_with fail
 refine (iq_ _ _ _ p1 x2 _ _ Hw.out hp1 Y2).mono ?_
 rintro e w' ⟨rfl,rfl⟩
 go_wp2_with fail
 refine (iq_ _ _ _ p2 x1 _ _ Hw.out hp2 Y1).mono ?_
 rintro e w' ⟨rfl,rfl⟩
 go_wp2
 go_quiet ((go_at_call 171;exact hz_ (iq_ _ _ _ p3 x0 _ _ (Hw.out.later (ek_ _ _)) hp3 Y0) ⟨_,rfl⟩))
 go_wp2
 go_ret
 exact⟨rfl,_,rfl⟩
theorem ck_{w:World}{A:Nat}{x y:Value}{t:TypeId}(h1:w.heap[A]? = some (.cells #[x,y] t (0,0))):w.cell? ⟨A,0,none⟩=some x∧w.cell? ⟨A,1,none⟩=some y:=⟨af_ h1 0,af_ h1 1⟩
theorem va_(A B x z:Nat):val (dg (A * x+0)) - val (dg (B * z+0))+(val (dg (B * z+0)) - val (dg (A * x+0)))=ev_ A B x z:=by
 rw[a1_,a1_,Nat.add_zero,Nat.add_zero,Nat.mul_comm A,Nat.mul_comm B];rfl
theorem ib_{x:Nat}(h:x < 4294967296):(dg x).length≤1:=bn_ (by simpa using h)
theorem gi_{P:Program}{fn:Func}{p q:Tmp}{ty:TypeId}(h:fn.results=#[.cell p ty,.cell q ty])(tmps:Array Value)(w:World)(g g':Nat)(t:TypeId)(cs ds:Array Value)(fr:Nat × Nat)(d:TypeDesc)
 (hp:tmps.getD p undef=.pointer (some ⟨g,0,none⟩)) (hq:tmps.getD q undef=.pointer (some ⟨g',0,none⟩)) (hg:w.heap[g]? = some (.cells cs t fr)) (hg':w.heap[g']? = some (.cells ds t fr))
 (hu:P.underlying ty=some d) (hd:(match d with | .struct _ | .array _ _=>true | _=>false)=true) (hi:(P.info? ty).map (·.size)=some cs.size) (hi':(P.info? ty).map (·.size)=some ds.size) :
 (results fn tmps).run P w=.ok (.tuple #[.agg cs,.agg ds]) w:=by
 have hp':tmps[p]?.getD undef=.pointer (some ⟨g,0,none⟩):=by simpa using hp
 have hq':tmps[q]?.getD undef=.pointer (some ⟨g',0,none⟩):=by simpa using hq
 simp[results,h,hp',hq',asAddr,run_loadVar_row w g t ty cs fr d hg hu hd hi,run_loadVar_row w g' t ty ds fr d hg' hu hd hi',Sem.run_bind,Result.andThen]
def cntV (x z:Nat):Value:=.agg #[.int .u64 (x:Int),.int .u64 (z:Int)]
theorem p2_(x z:Nat)(a:OA_)(n cap:Nat)(la:List Nat)(b:OA_)(m cap':Nat)(lb:List Nat)(w:World)(ha:Wd w a n cap la)(hb:Wd w b m cap' lb)(hn:n≤104857600000)(hm:m≤104857600000)(hx:x < 4294967296)(hz:z < 4294967296) :
 Calls Tryz.prog 165 #[cntV x z,.slice a n cap,.slice b m cap'] w (Lst (dg (ev_ (val la) (val lb) x z)) w):=by
 have hB0:Below w.heap.size w (w.alloc (.cells #[.int .u64 (x:Int),.int .u64 (z:Int)] 163)):=aa_ _ _
 have Ha:=ha.l_ hB0
 have Hb:=hb.l_ hB0
 have HB:=hd_ hB0
 have hN:=ai_ w #[.int .u64 (x:Int),.int .u64 (z:Int)] 163
 have Hl1:Hid ((dg (val la * x+0)).length≤104857600001):=hd_ (by
  have h1:=bp_ (val la) x
  have h2:=ha.trim_le
  have h3:=ib_ hx
  rw[Nat.add_zero];omega)
 have Hl2:Hid ((dg (val lb * z+0)).length≤104857600001):=hd_ (by
  have h1:=bp_ (val lb) z
  have h2:=hb.trim_le
  have h3:=ib_ hz
  rw[Nat.add_zero];omega)
 have HX:=hd_ hx
 have HZ:=hd_ hz
 have HWx:Hid (IntKind.u32.wrap (x:Int)=(x:Int)):=hd_ (by rw[s1_];omega)
 have HWz:Hid (IntKind.u32.wrap (z:Int)=(z:Int)):=hd_ (by rw[s1_];omega)
 clear ha hb hB0
 go_enter Tryz.func165,Tryz.ntmps165
 unfold cntV
 go_wp2
 generalize w.alloc (.cells #[.int .u64 (x:Int),.int .u64 (z:Int)] 163)=W at *
 have hNd:W.drew.heap[w.heap.size]? = some (.cells #[.int .u64 (x:Int),.int .u64 (z:Int)] 163 (0,0)):=hN
 have Hd:Below W.heap.size W W.drew:=(Below.refl _ _).drew
 have HN:=hd_ hNd
 have Sd:=ck_ hNd
 clear hN hNd
 go_region_held3 (fun w'=>w'.cell? ⟨w.heap.size,0,none⟩=some (.int .u64 (x:Int))∧w'.cell? ⟨w.heap.size,1,none⟩=some (.int .u64 (z:Int))) (first | exact Sd | exact S1 | exact S2 | exact S3)
  (first
  | (go_at_call 172;(first
    | (have S0:=S1;rw[HWz.out];(refine (qc_ b m cap' lb z 0 _ ((Hb.out.later Hd).later b1) ?q3 HZ.out ?q4).mono ?_);(case q3=>omega);(case q4=>omega);rintro e w2 ⟨a2,n2,c2,rfl,h2,b2⟩;have S2:=ck_ (ac_ (ac_ HN.out b1) b2))
    | (rw[HWx.out];(refine (qc_ a n cap la x 0 _ (Ha.out.later Hd) ?q1 HX.out ?q2).mono ?_);(case q1=>omega);(case q2=>omega);rintro e w1 ⟨a1,n1,c1,rfl,h1,b1⟩;have S1:=ck_ (ac_ HN.out b1))))
  | (go_at_call 131;(refine (natSaid.gap a1 n1 c1 _ a2 n2 c2 _ _ (h1.later b2) h2 ?q5 ?q6).mono ?_);(case q5=>have:=h1.len;have:=Hl1.out;omega);(case q6=>have:=h2.len;have:=Hl2.out;omega);rintro e w3 ⟨a3,n3,c3,rfl,h3,b3⟩;have S3:=ck_ (ac_ (ac_ (ac_ HN.out b1) b2) b3)))
 go_wp2
 go_ret
 rw[va_] at h3
 exact⟨a3,n3,c3,rfl,h3,ab_ HB.out (ab_ Hd (ab_ b1 (ab_ b2 b3)))⟩
def kp_ (w:World) (g xa xb ya yb na nb:Nat):Prop:=
 w.heap[g]? = some (.cells #[.int .u64 (xa:Int),.int .u64 (xb:Int)] 163 (0,0))∧w.heap[g+1]? = some (.cells #[.int .u64 (ya:Int),.int .u64 (yb:Int)] 163 (0,0))∧w.heap[g+1+1]? = some (.cells #[.int .u64 (na:Int),.int .u64 (nb:Int)] 163 (0,0))
theorem s0_(w:World)(xa xb ya yb na nb:Nat):kp_ (((w.alloc (.cells #[.int .u64 (xa:Int),.int .u64 (xb:Int)] 163)).alloc (.cells #[.int .u64 (ya:Int),.int .u64 (yb:Int)] 163)).alloc (.cells #[.int .u64 (na:Int),.int .u64 (nb:Int)] 163)) w.heap.size xa xb ya yb na nb:=by
 obtain⟨h1,h2⟩:=c8_ w (((w.alloc (.cells #[.int .u64 (xa:Int),.int .u64 (xb:Int)] 163)).alloc (.cells #[.int .u64 (ya:Int),.int .u64 (yb:Int)] 163)).alloc (.cells #[.int .u64 (na:Int),.int .u64 (nb:Int)] 163)) _ _ _ _ (aa_ _ _)
 refine ⟨h1,h2,?_⟩
 have h3:=ai_ ((w.alloc (.cells #[.int .u64 (xa:Int),.int .u64 (xb:Int)] 163)).alloc (.cells #[.int .u64 (ya:Int),.int .u64 (yb:Int)] 163)) #[.int .u64 (na:Int),.int .u64 (nb:Int)] 163
 rw[al_,al_] at h3
 exact h3
theorem gj_{w:World}{A g:Nat}{o:Obj}(h:w.heap[A]? = some o)(hne:A≠g)(u v:Value):((w.setCell ⟨g,0,none⟩ u).setCell ⟨g,1,none⟩ v).heap[A]? = some o:=
 (Below.heap_setCell (w.setCell ⟨g,0,none⟩ u) ⟨g,1,none⟩ v A hne).trans ((Below.heap_setCell w ⟨g,0,none⟩ u A hne).trans h)
theorem jt_{w:World}{g xa xb ya yb na nb:Nat}(h:kp_ w g xa xb ya yb na nb)(x y z u:Nat) :
 kp_ ((((w.setCell ⟨g,0,none⟩ (.int .u64 (x:Int))).setCell ⟨g,1,none⟩ (.int .u64 (y:Int))).setCell ⟨g+1,0,none⟩ (.int .u64 (z:Int))).setCell ⟨g+1,1,none⟩ (.int .u64 (u:Int))) g x y z u na nb:=by
 have h1:=a4_ h.1 (.int .u64 (x:Int)) (.int .u64 (y:Int))
 have h2:=gj_ h.2.1 (show g+1≠g by omega) (.int .u64 (x:Int)) (.int .u64 (y:Int))
 have h3:=gj_ h.2.2 (show g+1+1≠g by omega) (.int .u64 (x:Int)) (.int .u64 (y:Int))
 exact⟨gj_ h1 (show g≠g+1 by omega) _ _,a4_ h2 _ _,gj_ h3 (show g+1+1≠g+1 by omega) _ _⟩
theorem us_{w:World}{g xa xb ya yb na nb:Nat}(h:kp_ w g xa xb ya yb na nb)(x y z u v t:Nat) :
 kp_ ((((((w.setCell ⟨g,0,none⟩ (.int .u64 (x:Int))).setCell ⟨g,1,none⟩ (.int .u64 (y:Int))).setCell ⟨g+1,0,none⟩ (.int .u64 (z:Int))).setCell ⟨g+1,1,none⟩ (.int .u64 (u:Int))).setCell ⟨g+1+1,0,none⟩ (.int .u64 (v:Int))).setCell ⟨g+1+1,1,none⟩ (.int .u64 (t:Int))) g x y z u v t:=by
 have h1:=jt_ h x y z u
 exact⟨gj_ h1.1 (show g≠g+1+1 by omega) _ _,gj_ h1.2.1 (show g+1≠g+1+1 by omega) _ _,a4_ h1.2.2 _ _⟩
theorem gl_{w:World}{g xa xb ya yb na nb:Nat}(h:kp_ w g xa xb ya yb na nb):kp_ w.drew g xa xb ya yb na nb:=h
def v2_ (A B:Nat) (w:World) (e:Ending) (w':World):Prop:=
 ∃xa xb ya yb:Nat,e=.returned (.tuple #[cntV xa xb,cntV ya yb])∧xa < 4294967296∧xb < 4294967296∧ya < 4294967296∧yb < 4294967296∧Hid (xb=0∨Good A B xa xb ya yb)∧Below w.heap.size w w'
theorem pb_(A B M p q:Nat)(w:World)(hM:Hid (0 < M))(hBA:Hid (B≤A))(hp:Hid (p=A / M))(hq:Hid (q=B / M))(hα:p < 18446744073709551616) :
 Calls Tryz.prog 163 #[.int .u64 (p:Int),.int .u64 (q:Int)] w (v2_ A B w):=by
 have HA:Hid (A / M < 18446744073709551616):=hd_ (by rw[←hp.out];exact hα)
 have hqp:q≤p:=by rw[hp.out,hq.out];exact Nat.div_le_div_right hBA.out
 have HS:Hid (Heads A B M p q 0 0 1 0 0 1):=hd_ (by rw[hp.out,hq.out];exact s2_ hBA.out)
 go_enter Tryz.func163,Tryz.ntmps163
 go_wp2
 go_loopw [0,1,7] (fun av bv qv wr=>∃a b xa xb ya yb na nb:Nat,av=.int .u64 (a:Int)∧bv=.int .u64 (b:Int)∧a < 18446744073709551616∧b≤a∧Hid (Heads A B M a b xa xb ya yb na nb)∧Hid (kp_ wr w.heap.size xa xb ya yb na nb)∧Hid (Below w.heap.size w wr)) (fun _ bv _ _=>(intOf bv).toNat)
 case atStart=>exact⟨p,q,0,0,1,0,0,1,rfl,rfl,hα,hqp,HS,hd_ (s0_ w _ _ _ _ _ _),hd_ (ab_ (ab_ (aa_ _ _) (aa_ _ _)) (aa_ _ _))⟩
 case round=>
  obtain⟨a,b,xa,xb,ya,yb,na,nb,rfl,rfl,ha64,hba,HH,HX,HBw⟩:=hrel
  have hn64:=HH.out.wn
  have hy32:=HH.out.wy
  have hx32:=HH.out.wx
  have hpos:=HH.out.way.pos
  obtain⟨hn1,hn2⟩:=hn64
  obtain⟨hy1,hy2⟩:=hy32
  obtain⟨hx1,hx2⟩:=hx32
  obtain⟨c1,c2⟩:=ck_ HX.out.1
  obtain⟨c3,c4⟩:=ck_ HX.out.2.1
  obtain⟨c5,c6⟩:=ck_ HX.out.2.2
  by_cases hb:nb≤b
  ·have hs:=ld_ HH.out HA.out hb
   obtain⟨hs1,hs2⟩:=hs
   obtain⟨e,he⟩:∃e:Nat,(yb:Int)+(nb:Int)=(e:Int):=⟨yb+nb,by omega⟩
   obtain⟨d,hd⟩:∃d:Nat,(a:Int) - (b:Int)=(d:Int):=⟨a - b,by omega⟩
   have he64:e < 18446744073709551616:=by omega
   have hd64:d < 18446744073709551616:=by omega
   by_cases hab:e≤d
   ·have hb0:(0:Int) < (b:Int):=by omega
    have Hstep:=hd_ (ul_ hM.out HH.out HA.out hb (by omega))
    obtain⟨r1,r2,r3,r4⟩:=na_ HH.out HA.out hb
    have hr:a % b < b:=Nat.mod_lt _ (by omega)
    obtain⟨q,hq⟩:∃q:Nat,(a:Int) / (b:Int)=(q:Int):=⟨a / b,by rw[Int.natCast_ediv]⟩
    obtain⟨r,hrr⟩:∃r:Nat,(a:Int) % (b:Int)=(r:Int):=⟨a % b,by rw[Int.natCast_emod]⟩
    have hqe:a / b=q:=by have:=Int.natCast_ediv a b;omega
    have hre:a % b=r:=by have:=Int.natCast_emod a b;omega
    rw[hqe] at r1 r2 r3 r4 Hstep
    rw[hre] at hr Hstep
    have hq64:q≤a:=by rw[←hqe];exact Nat.div_le_self _ _
    obtain⟨m1,hm1⟩:∃m1:Nat,(q:Int) * (na:Int)=(m1:Int):=⟨q * na,by rw[Int.natCast_mul]⟩
    obtain⟨m2,hm2⟩:∃m2:Nat,(q:Int) * (nb:Int)=(m2:Int):=⟨q * nb,by rw[Int.natCast_mul]⟩
    have hm1e:q * na=m1:=by have:=Int.natCast_mul q na;omega
    have hm2e:q * nb=m2:=by have:=Int.natCast_mul q nb;omega
    rw[hm1e] at r1 r3 Hstep
    rw[hm2e] at r2 r4 Hstep
    clear hqe hre hm1e hm2e
    go_wp2
    go_quiet (fail)
    have HXd:Hid (kp_ (wr.drewN nq) w.heap.size xa xb ya yb na nb):=hd_ HX.out
    have HBd:Hid (Below w.heap.size w (wr.drewN nq)):=hd_ (below_drewN HBw.out nq)
    rw[hrr]
    clear HX HBw c1 c2 c3 c4 c5 c6 hrr
    generalize wr.drewN nq=wq at *
    have HXq:kp_ wq w.heap.size xa xb ya yb na nb:=HXd.out
    obtain⟨c1,c2⟩:=ck_ HXq.1
    obtain⟨c3,c4⟩:=ck_ HXq.2.1
    obtain⟨c5,c6⟩:=ck_ HXq.2.2
    have f1:=ad_ HXq.1 0
    have f2:=ad_ HXq.1 1
    have f3:=ad_ HXq.2.1 0
    have f4:=ad_ HXq.2.1 1
    have f5:=ad_ HXq.2.2 0
    have f6:=ad_ HXq.2.2 1
    clear HXq
    obtain⟨ka,hka⟩:∃ka:Nat,(ya:Int)+(m1:Int)=(ka:Int):=⟨ya+m1,by omega⟩
    obtain⟨kb,hkb⟩:∃kb:Nat,(yb:Int)+(m2:Int)=(kb:Int):=⟨yb+m2,by omega⟩
    have hkae:ya+m1=ka:=by omega
    have hkbe:yb+m2=kb:=by omega
    rw[hkae] at r3 Hstep
    rw[hkbe] at r4 Hstep
    have hb64:b < 18446744073709551616:=by omega
    clear hkae hkbe hb hba hab hs1 hs2 he hd he64 hd64
    go_wp2
    go_region
    have HXn:=hd_ (us_ HXd.out ya yb na nb ka kb)
    have HBn:=hd_ (an_ (an_ (an_ HBd.out (Nat.le_refl _) (.int .u64 (ya:Int)) (.int .u64 (yb:Int))) (show w.heap.size≤w.heap.size+1 by omega) (.int .u64 (na:Int)) (.int .u64 (nb:Int))) (show w.heap.size≤w.heap.size+1+1 by omega) (.int .u64 (ka:Int)) (.int .u64 (kb:Int)))
    clear c1 c2 c3 c4 c5 c6 f1 f2 f3 f4 f5 f6
    go_wp2
    go_roundw
    case rel=>exact⟨b,r,ya,yb,na,nb,ka,kb,rfl,rfl,hb64,by omega,Hstep,hd_ (gl_ HXn.out),hd_ HBn.out.drew⟩
    case measure=>simp[intOf];omega
   ·clear c1 c2 c3 c4 c5 c6
    have HXq:kp_ wr w.heap.size xa xb ya yb na nb:=HX.out
    have f1:=ad_ HXq.1 0
    have f2:=ad_ HXq.1 1
    have f3:=ad_ HXq.2.1 0
    have f4:=ad_ HXq.2.1 1
    obtain⟨c1,c2⟩:=ck_ HXq.1
    obtain⟨c3,c4⟩:=ck_ HXq.2.1
    obtain⟨c5,c6⟩:=ck_ HXq.2.2
    have HE:=hd_ (jt_ HXq xa xb ya yb)
    have HBe:=hd_ (an_ (an_ HBw.out (Nat.le_refl _) (.int .u64 (xa:Int)) (.int .u64 (xb:Int))) (show w.heap.size≤w.heap.size+1 by omega) (.int .u64 (ya:Int)) (.int .u64 (yb:Int)))
    have HG:Hid (xb=0∨Good A B xa xb ya yb):=hd_ (HH.out.here.imp (fun h=>h.1) id)
    clear HXq HX HBw
    go_wp2
    go_region
    go_wp2
    refine bodyPost_ret (gi_ Tryz.results163 _ _ w.heap.size (w.heap.size+1) 163 #[.int .u64 (xa:Int),.int .u64 (xb:Int)] #[.int .u64 (ya:Int),.int .u64 (yb:Int)] (0,0) _ rfl rfl (gl_ HE.out).1 (gl_ HE.out).2.1 Tryz.underlying163 rfl (by kernel_rfl) (by kernel_rfl)) rfl ?_
    exact⟨xa,xb,ya,yb,rfl,hx1,hx2,hy1,hy2,HG,HBe.out.drew⟩
  ·clear c1 c2 c3 c4 c5 c6
   have HXq:kp_ wr w.heap.size xa xb ya yb na nb:=HX.out
   have f1:=ad_ HXq.1 0
   have f2:=ad_ HXq.1 1
   have f3:=ad_ HXq.2.1 0
   have f4:=ad_ HXq.2.1 1
   obtain⟨c1,c2⟩:=ck_ HXq.1
   obtain⟨c3,c4⟩:=ck_ HXq.2.1
   obtain⟨c5,c6⟩:=ck_ HXq.2.2
   have HE:=hd_ (jt_ HXq xa xb ya yb)
   have HBe:=hd_ (an_ (an_ HBw.out (Nat.le_refl _) (.int .u64 (xa:Int)) (.int .u64 (xb:Int))) (show w.heap.size≤w.heap.size+1 by omega) (.int .u64 (ya:Int)) (.int .u64 (yb:Int)))
   have HG:Hid (xb=0∨Good A B xa xb ya yb):=hd_ (HH.out.here.imp (fun h=>h.1) id)
   clear HXq HX HBw
   go_wp2
   go_region
   go_wp2
   refine bodyPost_ret (gi_ Tryz.results163 _ _ w.heap.size (w.heap.size+1) 163 #[.int .u64 (xa:Int),.int .u64 (xb:Int)] #[.int .u64 (ya:Int),.int .u64 (yb:Int)] (0,0) _ rfl rfl (gl_ HE.out).1 (gl_ HE.out).2.1 Tryz.underlying163 rfl (by kernel_rfl) (by kernel_rfl)) rfl ?_
   exact⟨xa,xb,ya,yb,rfl,hx1,hx2,hy1,hy2,HG,HBe.out.drew⟩
end Go.Proofs.YtocebjbjnfammaaGreat
