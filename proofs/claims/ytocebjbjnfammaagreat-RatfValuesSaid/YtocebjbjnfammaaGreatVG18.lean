import Derived.Test.YtocebjbjnfammaaGreatVG5
import Derived.Test.YtocebjbjnfammaaGreatVG13
import Derived.Test.YtocebjbjnfammaaGreatVG17
import Derived.Laws.AppendOwnNone
import Derived.Test.YtocebjbjnfammaaGreatVG16
import Derived.Test.YtocebjbjnfammaaGreatVG1
set_option maxRecDepth 4096
set_option maxHeartbeats 16000000
namespace Go.Proofs.YtocebjbjnfammaaGreat
open Go.RowKit
theorem pz_{w:World}{b off n cap:Nat}{L:List Fx}(h:Fxs w (some ⟨b,off,none⟩) n cap L):∀j u,(L.flatMap Fx.cells)[j]? = some u→w.cell? ((⟨b,off,none⟩:Addr).add j)=some u:=by
 intro j u hu
 have hj:j < (L.flatMap Fx.cells).length:=(List.getElem?_eq_some_iff.1 hu).1
 rw[bq_] at hj
 have hl:=h.len
 rcases h.2.2.2.2.2 with h0 | ⟨b',off',e,hc⟩
 ·omega
 ·simp only[Option.some.injEq,Addr.mk.injEq,and_true] at e
  obtain⟨rfl,rfl⟩:=e
  rw[Go.WideShapes.add_plain]
  obtain⟨i,hi⟩:∃i,j / 3=i:=⟨_,rfl⟩
  have hil:i < L.length:=by omega
  obtain⟨f0,f1,f2⟩:=e1_ L i hil
  obtain⟨c0,c1,c2⟩:=hc i (by omega)
  have h3:j=i * 3∨j=i * 3+1∨j=i * 3+2:=by omega
  rcases h3 with e | e | e
  ·rw[e] at hu ⊢;rw[f0] at hu;rw[←hu];exact c0
  ·rw[e] at hu ⊢;rw[f1] at hu;rw[←hu,←Nat.add_assoc];exact c1
  ·rw[e] at hu ⊢;rw[f2] at hu;rw[←hu,←Nat.add_assoc];exact c2
theorem jo_(L:List Fx):∀u∈L.flatMap Fx.cells,u.oneCell'=true:=fun u hu=>by
 obtain⟨x,_,hx⟩:=List.mem_flatMap.1 hu
 exact nr_ x u hx
theorem nq_:∀(L:List Fx) (k:Nat),(L.take k).flatMap Fx.cells=(L.flatMap Fx.cells).take (k * 3)
 | [],k=>by simp
 | x :: L,0=>by simp
 | x :: L,k+1=>by
   have ih:=nq_ L k
   have h3:(Fx.cells x).length=3:=rfl
   rw[List.take_succ_cons,List.flatMap_cons,List.flatMap_cons,ih,List.take_append,h3,show (k+1) * 3 - 3=k * 3 by omega,List.take_of_length_le (l:=Fx.cells x) (by omega)]
theorem Cop.front{w:World}{base:Nat}{e:TypeId}{g k cap:Nat}{L:List Fx}(h:Cop w base e (.slice (some ⟨g,0,none⟩) k cap) L)(hk:k=L.length){i:Nat}(hi:i≤k):Cop w base e (.slice (some ⟨g,0,none⟩) i cap) (L.take i):=by
 obtain⟨⟨⟨h1,h2⟩,h3⟩,h4⟩:=h
 have hl:(L.take i).length=i:=by rw[List.length_take];omega
 refine ⟨⟨⟨by rw[bq_],.inr ?_⟩,fun g' hg'=>h3 g' hg'⟩,fun x hx=>h4 x (List.mem_of_mem_take hx)⟩
 rcases h2 with ⟨h5,_⟩ | ⟨g',cap',cur,h5,hbg,hg,hnc,hcm,hcs,htake⟩
 ·cases h5
 ·simp only[Value.slice.injEq,Option.some.injEq,Addr.mk.injEq,and_true] at h5
  obtain⟨rfl,e1,rfl⟩:=h5
  refine ⟨g,cap,cur,by rw[hl],hbg,hg,by omega,hcm,hcs,?_⟩
  rw[hl,nq_,←htake,List.take_take,Nat.min_eq_left (by omega)]
theorem Row.cop{w:World}{base:Nat}{e:TypeId}{v:Value}{qs:List Rat}(h:Row w base e v qs):∃L,Cop w base e v L∧fqs L=qs∧∀x∈L,x.right:=by
 obtain⟨L,h1,h2,h3⟩:=h
 exact⟨L,⟨h1,fun x hx=>(h3 x hx).1⟩,h2,fun x hx=>(h3 x hx).2⟩
theorem Row.of{w:World}{base:Nat}{e:TypeId}{v:Value}{L:List Fx}(h:Cop w base e v L)(hr:∀x∈L,x.right):Row w base e v (fqs L):=⟨L,h.1,rfl,fun x hx=>⟨h.2 x hx,hr x hx⟩⟩
theorem Row.front{w:World}{base:Nat}{e:TypeId}{g k cap:Nat}{qs:List Rat}(h:Row w base e (.slice (some ⟨g,0,none⟩) k cap) qs)(hk:k=qs.length){i:Nat}(hi:i≤k):Row w base e (.slice (some ⟨g,0,none⟩) i cap) (qs.take i):=by
 obtain⟨L,h1,rfl,h3⟩:=h.cop
 have h4:=Row.of (h1.front (by rw[hk,ap_]) hi) (fun x hx=>h3 x (List.mem_of_mem_take hx))
 rwa [show fqs (L.take i)=(fqs L).take i by unfold fqs;rw[List.map_take]] at h4
theorem Cop.beside{w w':World}{base:Nat}{e:TypeId}{v u:Value}{L:List Fx}(h:Cop w base e v L)(hc:clean w u)(hg:w.grownBy w' u.ownBlock)(hne:v.ownBlock=none∨v.ownBlock≠u.ownBlock):Cop w' base e v L:=by
 obtain⟨⟨h1,h2⟩,h4⟩:=h
 refine ⟨⟨h1.kept hg hne,fun g hg' j k hk=>?_⟩,fun x hx=>Fx.aside (h4 x hx) hc hg⟩
 have hlt:=(h1.lt g hg').2
 have hb:=hg.block g hlt (fun e2=>by
  rcases hne with h5 | h5
  ·rw[h5] at hg';cases hg'
  ·exact h5 (hg'.trans e2))
 rw[World.cell?_of_block (a:=⟨g,j,none⟩) hb] at hk
 exact h2 g hg' j k hk
theorem Row.beside{w w':World}{base:Nat}{e:TypeId}{v u:Value}{qs:List Rat}(h:Row w base e v qs)(hc:clean w u)(hg:w.grownBy w' u.ownBlock)(hne:v.ownBlock=none∨v.ownBlock≠u.ownBlock):Row w' base e v qs:=by
 obtain⟨L,h1,rfl,h3⟩:=h.cop
 exact Row.of (h1.beside hc hg hne) h3
theorem Cop.clean{w:World}{base:Nat}{e:TypeId}{v:Value}{L:List Fx}(h:Cop w base e v L):clean w v:=h.1.2
theorem Row.clean{w:World}{base:Nat}{e:TypeId}{v:Value}{qs:List Rat}(h:Row w base e v qs):clean w v:=by
 obtain⟨L,h1,_⟩:=h
 exact h1.2
theorem p0_{w:World}{b b':Nat}{e:TypeId}{v:Value}{L:List Fx}(h:Cop w b e v L)(hb:b'≤b):Cop w b' e v L:=by
 obtain⟨⟨⟨h1,h2⟩,h3⟩,h4⟩:=h
 refine ⟨⟨⟨h1,?_⟩,h3⟩,h4⟩
 rcases h2 with h2 | ⟨g,cap,cur,e1,hg,h5⟩
 ·exact .inl h2
 ·exact .inr ⟨g,cap,cur,e1,Nat.le_trans hb hg,h5⟩
theorem zero_ok(w:World):Fx.zero.ok w:=⟨Wd.ofNil w,Wd.ofNil w⟩
theorem HalfC.cop{w:World}{base:Nat}{e:TypeId}{v:Value}{n:Nat}(h:HalfC w base e v [] n):Cop w base e v (List.replicate n Fx.zero):=by
 obtain⟨h1,_⟩:=h
 rw[List.nil_append] at h1
 exact⟨h1,fun x hx=>by rw[List.eq_of_mem_replicate hx];exact zero_ok w⟩
theorem Cop.put{w:World}{base:Nat}{e:TypeId}{g k cap:Nat}{L:List Fx}(h:Cop w base e (.slice (some ⟨g,0,none⟩) k cap) L)(hk:k=L.length){i:Nat}(hi:i < L.length)(x:Fx)(hx:x.ok w) :
 Cop (((w.setCell ⟨g,i * 3,none⟩ (.bool x.s)).setCell ⟨g,i * 3+1,none⟩ (.slice x.a x.n x.c)).setCell ⟨g,i * 3+2,none⟩ (.slice x.b x.m x.d)) base e (.slice (some ⟨g,0,none⟩) k cap) (L.set i x)∧
 w.grownBy (((w.setCell ⟨g,i * 3,none⟩ (.bool x.s)).setCell ⟨g,i * 3+1,none⟩ (.slice x.a x.n x.c)).setCell ⟨g,i * 3+2,none⟩ (.slice x.b x.m x.d)) (some g):=by
 obtain⟨⟨h1,h2⟩,h4⟩:=h
 subst hk
 have hf:=bq_ L
 obtain⟨c0,c1,c2⟩:=e1_ L i (by omega)
 have p0:=h1.cellAt (i * 3) (by omega)
 have p1:=h1.cellAt (i * 3+1) (by omega)
 have p2:=h1.cellAt (i * 3+2) (by omega)
 rw[c0] at p0;rw[c1] at p1;rw[c2] at p2
 obtain⟨s0,g0⟩:=h1.stored (i * 3) (.bool x.s)
 obtain⟨s1,g1⟩:=s0.stored (i * 3+1) (.slice x.a x.n x.c)
 obtain⟨s2,g2⟩:=s1.stored (i * 3+2) (.slice x.b x.m x.d)
 have l0:=ce_ (j:=i * 3) (u:=.bool x.s) h2 p0 (fun y e=>by cases e)
 have l1:=ce_ (j:=i * 3+1) (u:=.slice x.a x.n x.c) l0 ((World.cell?_setCell_other _ ⟨g,i * 3,none⟩ ⟨g,i * 3+1,none⟩ _ (fun e=>by simp at e)).trans p1) (fun y e=>by cases e)
 have l2:=ce_ (j:=i * 3+2) (u:=.slice x.b x.m x.d) l1 (((World.cell?_setCell_other _ ⟨g,i * 3+1,none⟩ ⟨g,i * 3+2,none⟩ _ (fun e=>by simp at e)).trans (World.cell?_setCell_other _ ⟨g,i * 3,none⟩ ⟨g,i * 3+2,none⟩ _ (fun e=>by simp at e))).trans p2) (fun y e=>by cases e)
 have hg:=(g0.trans g1).trans g2
 refine ⟨⟨⟨?_,l2⟩,fun y hy=>?_⟩,hg⟩
 ·rw[ep_ L i _ (by omega),List.length_set]
  exact s2
 ·rcases List.mem_or_eq_of_mem_set hy with hy | rfl
  ·exact Fx.aside (h4 y hy) h2 hg
  ·exact Fx.aside hx h2 hg
section
variable {P:Program} (w:World)
theorem fw_(base:Nat)(t ty e:TypeId)(i:TypeInfo)(ht:P.underlying t=some (.slice e))(hi:P.info? e=some i)(hz:i.zero=some (.agg #[.bool false,.slice none 0 0,.slice none 0 0]))(hsize:i.size=3)(hby:i.bytes=56)
 (v:Value) (L:List Fx) (hrow:Cop w base e v L) (a:OA_) (m c:Nat) (M:List Fx) (hx:Fxs w a m c M) (hlen:L.length+m≤1000000) (hbase:base≤w.heap.size) :
 ∃v' w',(Builtin.append_ #[t,t] ty #[v,.slice a m c]).run P w=.ok v' w'∧Cop w' base e v' (L ++ M)∧w.grownBy w' v.ownBlock:=by
 obtain⟨⟨h1,h2⟩,h4⟩:=hrow
 have hM:=hx.len
 have hbd:=hx.bound
 cases a with
 | none=>
   have hc:c=0:=hx.2.2.2.1 rfl
   subst hc
   have hm0:m=0:=by omega
   subst hm0
   have hM0:M=[]:=List.eq_nil_of_length_eq_zero hM
   subst hM0
   refine ⟨v,w,run_append_owned_none (P:=P) (w:=w) base t ty e i 3 ht hi v _ _ h1,?_,⟨rfl,rfl,rfl,Nat.le_refl _,fun _ _ _=>rfl⟩⟩
   rw[List.append_nil]
   exact⟨⟨h1,h2⟩,h4⟩
 | some ad=>
   have hzw:dr_ (Value.agg #[.bool false,.slice none 0 0,.slice none 0 0]).cells.toList:=by
    intro u hu k
    simp[Value.cells] at hu
    rcases hu with rfl | rfl <;> simp
   have hnews:∀j u,(M.flatMap Fx.cells)[j]? = some u→w.cell? (ad.add j)=some u:=by
    rcases hx.2.2.2.2.2 with h0 | ⟨b,off,e9,_⟩
    ·have hM0:M=[]:=List.eq_nil_of_length_eq_zero (by omega)
     subst hM0
     intro j u hu
     simp at hu
    ·simp only[Option.some.injEq] at e9
     subst e9
     exact pz_ hx
   obtain⟨v',w',hr,g2,g3,g4⟩:=run_append_own (P:=P) w base t ty e i (.agg #[.bool false,.slice none 0 0,.slice none 0 0]) 3 56 ht hi hz hsize hby rfl (by decide) v L.length _ h1 ad m c (M.flatMap Fx.cells) (by rw[bq_,hM]) hnews (jo_ M) (by unfold maxLen;omega) (by omega) hbase
   have hcl:clean w' v':=by
    rcases h1.2 with ⟨rfl,hl0⟩ | ⟨g,cap,cur,rfl,hbg,hg,hnc',hcm,hcs,htake⟩
    ·by_cases hm:m=0
     ·rw[g4.2 ⟨rfl,hm⟩]
      exact jm_ _
     ·have er:=run_append_nil (P:=P) w t ty e i _ ht hi hz ad m c (M.flatMap Fx.cells) (by rw[bq_,hM,hsize]) hnews (by omega) (by omega) (by rw[hby];omega)
      rw[er] at hr
      simp only[Result.ok.injEq] at hr
      obtain⟨rfl,rfl⟩:=hr
      exact c6_ (heap_alloc_new w.drew _) (by simp only[Array.toList_append];exact bs_ (d1_ _) (dn_ hzw _))
    ·by_cases hroom:L.length+m≤cap
     ·have er:=run_append_room (P:=P) w t ty e i ht hi g L.length cap cur hg ad m c (M.flatMap Fx.cells) (by rw[bq_,hM,hsize]) hnews (jo_ M) hroom (by rw[bq_,hM,hcs,hsize,←Nat.add_mul];exact Nat.mul_le_mul_right _ hroom)
      rw[er] at hr
      simp only[Result.ok.injEq] at hr
      obtain⟨rfl,rfl⟩:=hr
      have hcu:dr_ cur.toList:=fun u hu k e2=>by
       obtain⟨j,hj,e3⟩:=List.getElem_of_mem hu
       refine h2 g rfl j k ?_
       rw[cell_of_row w g j cur e (0,0) hg,←e2,←e3]
       simp
      refine c6_ (setRow_heap w g cur _ e _ hg) ?_
      exact bs_ (bs_ (fun u hu=>hcu u (List.mem_of_mem_take hu)) (d1_ _)) (fun u hu=>hcu u (List.mem_of_mem_drop hu))
     ·have holds:∀j u,(L.flatMap Fx.cells)[j]? = some u→w.cell? ((⟨g,0,none⟩:Addr).add j)=some u:=h1.cells (g:=g) rfl
      have er:=run_append_grow (P:=P) w t ty e i _ ht hi hz ⟨g,0,none⟩ L.length cap (L.flatMap Fx.cells) (by rw[bq_,hsize]) holds ad m c (M.flatMap Fx.cells) (by rw[bq_,hM,hsize]) hnews (by omega) (by omega) (growslice_fits (by omega) (by rw[hby];omega))
      rw[er] at hr
      simp only[Result.ok.injEq] at hr
      obtain⟨rfl,rfl⟩:=hr
      exact c6_ (heap_alloc_new w.drew _) (by simp only[Array.toList_append];exact bs_ (bs_ (d1_ _) (d1_ _)) (dn_ hzw _))
   refine ⟨v',w',hr,⟨⟨by rw[List.flatMap_append,List.length_append,hM];exact g2,hcl⟩,fun y hy=>?_⟩,g3⟩
   rcases List.mem_append.1 hy with hy | hy
   ·exact Fx.aside (h4 y hy) h2 g3
   ·exact Fx.aside (hx.ok hy) h2 g3
theorem ku_{o:Oper}{act:Act}{K:Act→World→Prop}{Q:Exit→Act→World→Prop}(s x:Operand)(t:TypeId)
 (ho:o.op=.call { callee:=.builtin .append,args:=#[s,x],argTypes:=#[t,t] })
 (base:Nat) (e:TypeId) (i:TypeInfo) (ht:P.underlying t=some (.slice e)) (hi:P.info? e=some i) (hz:i.zero=some (.agg #[.bool false,.slice none 0 0,.slice none 0 0])) (hsize:i.size=3) (hby:i.bytes=56)
 (v:Value) (L:List Fx) (hs:act.eval s=v) (hrow:Cop w base e v L) (a:OA_) (m c:Nat) (M:List Fx) (hv:act.eval x=.slice a m c) (hx:Fxs w a m c M) (hlen:L.length+m≤1000000) (hbase:base≤w.heap.size)
 (h:∀v' w',Cop w' base e v' (L ++ M)→w.grownBy w' v.ownBlock→(∀k,v.ownBlock=some k→base≤k)→clean w v→K (act.put o.dst v') w'):o.wp P act w K Q:=by
 obtain⟨v',w',hr,h2,h3⟩:=fw_ (P:=P) w base t o.type e i ht hi hz hsize hby v L hrow a m c M hx hlen hbase
 unfold Oper.wp execOp
 simp only[ho,resolve,invoke,builtin,Sem.run_bind,Sem.run_pure,Result.andThen_ok,List.map_toArray,List.map_cons,List.map_nil,hs,hv,hr]
 exact h v' w' h2 h3 (fun k hk=>hrow.1.base k hk) hrow.1.2
theorem ew_{ops:Array Oper}{rest:List Oper}{o:Oper}{act:Act}{Q:Exit→Act→World→Prop}(hgd:o.guard=none)(s x:Operand)(t:TypeId)
 (ho:o.op=.call { callee:=.builtin .append,args:=#[s,x],argTypes:=#[t,t] })
 (base:Nat) (e:TypeId) (i:TypeInfo) (ht:P.underlying t=some (.slice e)) (hi:P.info? e=some i) (hz:i.zero=some (.agg #[.bool false,.slice none 0 0,.slice none 0 0])) (hsize:i.size=3) (hby:i.bytes=56)
 (v:Value) (L:List Fx) (hs:act.eval s=v) (hrow:Cop w base e v L) (a:OA_) (m c:Nat) (M:List Fx) (hv:act.eval x=.slice a m c) (hx:Fxs w a m c M) (hlen:L.length+m≤1000000) (hbase:base≤w.heap.size)
 (h:∀v' w',Cop w' base e v' (L ++ M)→w.grownBy w' v.ownBlock→(∀k,v.ownBlock=some k→base≤k)→clean w v→wpList P ops Q rest (act.put o.dst v') w'):wpList P ops Q (o :: rest) act w:=
 wpList_plain hgd fun _ hK=>ku_ w s x t ho base e i ht hi hz hsize hby v L hs hrow a m c M hv hx hlen hbase fun v' w' h2 h3 h4 h5=>hK _ _ (h v' w' h2 h3 h4 h5)
theorem hi_{ops:Array Oper}{rest:List Oper}{o:Oper}{act:Act}{Q:Exit→Act→World→Prop}(hgd:o.guard=none)(s x:Operand)(t:TypeId)
 (ho:o.op=.call { callee:=.builtin .append,args:=#[s,x],argTypes:=#[t,t] })
 (base:Nat) (e:TypeId) (i:TypeInfo) (ht:P.underlying t=some (.slice e)) (hi:P.info? e=some i) (hz:i.zero=some (.agg #[.bool false,.slice none 0 0,.slice none 0 0])) (hsize:i.size=3) (hby:i.bytes=56)
 (v:Value) (qs:LR_) (hs:act.eval s=v) (hrow:Row w base e v qs) (a:OA_) (m c:Nat) (rs:LR_) (hv:act.eval x=.slice a m c) (hx:Rw w a m c rs) (hlen:qs.length+m≤1000000) (hbase:base≤w.heap.size)
 (h:∀v' w',Row w' base e v' (qs ++ rs)→w.grownBy w' v.ownBlock→(∀k,v.ownBlock=some k→base≤k)→clean w v→wpList P ops Q rest (act.put o.dst v') w'):wpList P ops Q (o :: rest) act w:=by
 obtain⟨L,h1,h2,h3⟩:=hrow.cop
 obtain⟨M,g1,g2,g3⟩:=hx
 refine ew_ w hgd s x t ho base e i ht hi hz hsize hby v L hs h1 a m c M hv g1 (by rw[←ap_,h2];exact hlen) hbase fun v' w' k1 k2 k3 k4=>h v' w' ?_ k2 k3 k4
 have h9:=Row.of k1 (fun x hx=>(List.mem_append.1 hx).elim (h3 x) (g3 x))
 rwa [show fqs (L ++ M)=qs ++ rs by rw[←h2,←g2];unfold fqs;rw[List.map_append]] at h9
theorem ks_(base:Nat)(t ty e:TypeId)(i:TypeInfo)(ht:P.underlying t=some (.slice e))(hi:P.info? e=some i)(hz:i.zero=some (.agg #[.bool false,.slice none 0 0,.slice none 0 0]))(hsize:i.size=3)(hby:i.bytes=56)
 (g n cap:Nat) (L:List Fx) (hrow:Cop w base e (.slice (some ⟨g,0,none⟩) n cap) L) (hn:n=L.length) (a:OA_) (m c:Nat) (M:List Fx) (hx:Fxs w a m c M) (hfit:n+m≤cap) (hlen:n+m≤1000000) (hbase:base≤w.heap.size) :
 ∃w',(Builtin.append_ #[t,t] ty #[.slice (some ⟨g,0,none⟩) n cap,.slice a m c]).run P w=.ok (.slice (some ⟨g,0,none⟩) (n+m) cap) w'∧Cop w' base e (.slice (some ⟨g,0,none⟩) (n+m) cap) (L ++ M)∧w.grownBy w' (some g):=by
 obtain⟨v',w',hr,h2,h3⟩:=fw_ (P:=P) w base t ty e i ht hi hz hsize hby _ L hrow a m c M hx (by rw[←hn];exact hlen) hbase
 have hM:=hx.len
 have hbd:=hx.bound
 suffices hv:v'=.slice (some ⟨g,0,none⟩) (n+m) cap by
  subst hv
  exact⟨w',hr,h2,h3⟩
 obtain⟨⟨h1,hcl⟩,h4⟩:=hrow
 cases a with
 | none=>
   have hc:c=0:=hx.2.2.2.1 rfl
   subst hc
   have hm0:m=0:=by omega
   subst hm0
   have er:=run_append_owned_none (P:=P) (w:=w) base t ty e i 3 ht hi _ _ _ h1
   rw[er] at hr
   simp only[Result.ok.injEq] at hr
   exact hr.1.symm
 | some ad=>
   have hnews:∀j u,(M.flatMap Fx.cells)[j]? = some u→w.cell? (ad.add j)=some u:=by
    rcases hx.2.2.2.2.2 with h0 | ⟨b,off,e9,_⟩
    ·have hM0:M=[]:=List.eq_nil_of_length_eq_zero (by omega)
     subst hM0
     intro j u hu
     simp at hu
    ·simp only[Option.some.injEq] at e9
     subst e9
     exact pz_ hx
   rcases h1.2 with ⟨e5,_⟩ | ⟨g',cap',cur,e5,hbg,hg,hnc',hcm,hcs,htake⟩
   ·cases e5
   ·simp only[Value.slice.injEq,Option.some.injEq,Addr.mk.injEq,and_true] at e5
    obtain⟨rfl,e6,rfl⟩:=e5
    subst hn
    have er:=run_append_room (P:=P) w t ty e i ht hi g L.length cap cur hg ad m c (M.flatMap Fx.cells) (by rw[bq_,hM,hsize]) hnews (jo_ M) hfit (by rw[bq_,hM,hcs,hsize,←Nat.add_mul];exact Nat.mul_le_mul_right _ hfit)
    rw[er] at hr
    simp only[Result.ok.injEq] at hr
    exact hr.1.symm
theorem h2_{ops:Array Oper}{rest:List Oper}{o:Oper}{act:Act}{Q:Exit→Act→World→Prop}(hgd:o.guard=none)(s x:Operand)(t:TypeId)
 (ho:o.op=.call { callee:=.builtin .append,args:=#[s,x],argTypes:=#[t,t] })
 (base:Nat) (e:TypeId) (i:TypeInfo) (ht:P.underlying t=some (.slice e)) (hi:P.info? e=some i) (hz:i.zero=some (.agg #[.bool false,.slice none 0 0,.slice none 0 0])) (hsize:i.size=3) (hby:i.bytes=56)
 (g n cap:Nat) (qs:LR_) (hs:act.eval s=.slice (some ⟨g,0,none⟩) n cap) (hrow:Row w base e (.slice (some ⟨g,0,none⟩) n cap) qs) (hn:n=qs.length) (a:OA_) (m c:Nat) (rs:LR_) (hv:act.eval x=.slice a m c) (hx:Rw w a m c rs) (k:Nat) (hk:n+m=k) (hfit:k≤cap) (hlen:k≤1000000) (hbase:base≤w.heap.size)
 (h:∀w',Row w' base e (.slice (some ⟨g,0,none⟩) k cap) (qs ++ rs)→w.grownBy w' (some g)→wpList P ops Q rest (act.put o.dst (.slice (some ⟨g,0,none⟩) k cap)) w'):wpList P ops Q (o :: rest) act w:=by
 subst hk
 obtain⟨L,h1,h2,h3⟩:=hrow.cop
 obtain⟨M,g1,g2,g3⟩:=hx
 refine wpList_plain hgd fun _ hK=>?_
 obtain⟨w',hr,k1,k2⟩:=ks_ (P:=P) w base t o.type e i ht hi hz hsize hby g n cap L h1 (by rw[hn,←h2,ap_]) a m c M g1 hfit hlen hbase
 unfold Oper.wp execOp
 simp only[ho,resolve,invoke,builtin,Sem.run_bind,Sem.run_pure,Result.andThen_ok,List.map_toArray,List.map_cons,List.map_nil,hs,hv,hr]
 refine hK _ _ (h w' ?_ k2)
 have h9:=Row.of k1 (fun x hx=>(List.mem_append.1 hx).elim (h3 x) (g3 x))
 rwa [show fqs (L ++ M)=qs ++ rs by rw[←h2,←g2];unfold fqs;rw[List.map_append]] at h9
theorem he_(base:Nat)(t ti ty e:TypeId)(q:IntKind)(i:TypeInfo)(ht:P.underlying t=some (.slice e))(hti:P.underlying ti=some (.int q))(hi:P.info? e=some i)(hz:i.zero=some (.agg #[.bool false,.slice none 0 0,.slice none 0 0]))(hsize:i.size=3)(hby:i.bytes=56)(k:IntKind)
 (m:Nat) (hm:0 < m) (hmm:m≤1000000) (hbase:base≤w.heap.size) :
 ∃w' cap,(Builtin.append_ #[t,ti] ty #[.slice none 0 0,.int k (m:Int)]).run P w=.ok (.slice (some ⟨w.heap.size,0,none⟩) m cap) w'∧Row w' base e (.slice (some ⟨w.heap.size,0,none⟩) 0 cap) []∧w.grownBy w' none∧m≤cap:=by
 have hw:IntKind.i64.wrap (m:Int)=(m:Int):=by rw[IntKind.wrap_i64];omega
 have hm0:¬((m:Int) < 0):=by omega
 have hmb:¬(281474976710656 < (m:Int) * (i.bytes:Int)):=by rw[hby];omega
 have hm9:¬m=0:=by omega
 have h63:¬(9223372036854775807 < (m:Int)):=by omega
 have h48:¬(281474976710656 < Builtin.nextslicecap m 0 * i.bytes):=by
  rw[nextslicecap_zero (by omega),hby];omega
 have hzw:dr_ (Value.agg #[.bool false,.slice none 0 0,.slice none 0 0]).cells.toList:=by
  intro u hu k
  simp[Value.cells] at hu
  rcases hu with rfl | rfl <;> simp
 have hge:=grownCap_ge w m 0 e
 have hcm:=grownCap_le_maxLen w m 0 e (by unfold maxLen;omega)
 refine ⟨w.drew.alloc (.cells (Builtin.zeroCells (Value.agg #[.bool false,.slice none 0 0,.slice none 0 0]).cells m ++ Builtin.zeroCells (Value.agg #[.bool false,.slice none 0 0,.slice none 0 0]).cells (grownCap w m 0 e - m)) e),grownCap w m 0 e,?_,?_,⟨rfl,rfl,rfl,by simp,fun k hk _=>Below.heap_alloc w.drew _ k hk⟩,hge⟩
 ·simp[Builtin.append_,run_underlying ht,run_underlying hti,sizeOf,typeInfo,zeroValue,hi,hz,hsize,asInt,asIntOf,hw,hm0,hmb,hm9,h63,h48,Question.forced,run_firstCells_none,newRow,grownCap]
  intro h9
  omega
 ·refine ⟨[],⟨⟨rfl,.inr ⟨w.heap.size,_,_,rfl,hbase,heap_alloc_new w.drew _,Nat.zero_le _,hcm,?_,?_⟩⟩,c6_ (heap_alloc_new w.drew _) ?_⟩,rfl,fun x hx=>by simp at hx⟩
  ·simp only[Array.size_append,size_zeroCells]
   show m * 3+_ * 3=_
   omega
  ·simp
  ·simp only[Array.toList_append]
   exact bs_ (dn_ hzw _) (dn_ hzw _)
theorem f7_{ops:Array Oper}{rest:List Oper}{o:Oper}{act:Act}{Q:Exit→Act→World→Prop}(hgd:o.guard=none)(s x:Operand)(t ti:TypeId)
 (ho:o.op=.call { callee:=.builtin .append,args:=#[s,x],argTypes:=#[t,ti] })
 (base:Nat) (e:TypeId) (q:IntKind) (i:TypeInfo) (ht:P.underlying t=some (.slice e)) (hti:P.underlying ti=some (.int q)) (hi:P.info? e=some i) (hz:i.zero=some (.agg #[.bool false,.slice none 0 0,.slice none 0 0])) (hsize:i.size=3) (hby:i.bytes=56) (k:IntKind)
 (m:Nat) (M:Int) (hs:act.eval s=.slice none 0 0) (hv:act.eval x=.int k M) (hM:M=(m:Int)) (hm:0 < m) (hmm:m≤1000000) (hbase:base≤w.heap.size)
 (h:∀cap w',Row w' base e (.slice (some ⟨w.heap.size,0,none⟩) 0 cap) []→w.grownBy w' none→m≤cap→wpList P ops Q rest (act.put o.dst (.slice (some ⟨w.heap.size,0,none⟩) m cap)) w'):wpList P ops Q (o :: rest) act w:=by
 subst hM
 refine wpList_plain hgd fun _ hK=>?_
 obtain⟨w',cap,hr,h2,h3,h4⟩:=he_ (P:=P) w base t ti o.type e q i ht hti hi hz hsize hby k m hm hmm hbase
 unfold Oper.wp execOp
 simp only[ho,resolve,invoke,builtin,Sem.run_bind,Sem.run_pure,Result.andThen_ok,List.map_toArray,List.map_cons,List.map_nil,hs,hv,hr]
 exact hK _ _ (h cap w' h2 h3 h4)
end
theorem fr_grow(n:Nat)(w:World)(hn:n≤1000000):Calls Tryz.prog 148 #[.slice none 0 0,.int .i64 (n:Int)] w (LstRow 44 [] w):=by
 have h0:¬(n:Int) < 0:=by omega
 by_cases hz:n=0
 ·subst hz
  go_enter Tryz.func148,Tryz.ntmps148
  go_wp2
  go_ret
  exact⟨_,rfl,Row.nil _ _ _,Below.refl _ _⟩
 ·have hp:(0:Int) < (n:Int):=by omega
  have hsub:(n:Int) - 0=(n:Int):=by omega
  obtain⟨i0,hi,hz0,hz1,hz2⟩:=info_parts du_
  go_enter Tryz.func148,Tryz.ntmps148
  go_wp2_with (at_builtin;refine f7_ _ rfl _ _ 33 3 rfl w.heap.size 44 .i64 i0 Tryz.underlying33 Tryz.underlying3 hi hz0 hz1 hz2 .i64 n _ rfl rfl rfl (by omega) hn (Nat.le_refl _) ?_;intro cap w5 hrow hgrow hcap)
  have HR:=hd_ hrow
  have HB:=hd_ ((Below.refl w.heap.size w).grown hgrow (Nat.le_refl _) (fun k hk=>by cases hk))
  clear hrow hgrow
  go_wp2
  go_ret
  exact⟨_,rfl,HR.out,HB.out⟩
theorem flat_len{LL:List (List Fx)}(hl:∀L∈LL,L.length≤300):∀k,(LL.take k).flatten.length≤300 * k:=by
 intro k
 induction LL generalizing k with
 | nil=>simp
 | cons L LL ih=>
   cases k with
   | zero=>simp
   | succ k=>
     have h1:=hl L (List.mem_cons_self ..)
     have h2:=ih (fun M hM=>hl M (List.mem_cons_of_mem _ hM)) k
     rw[List.take_succ_cons,List.flatten_cons,List.length_append]
     omega
theorem jb_{LL:List (List Fx)}{k:Nat}(h:k < LL.length):(LL.take (k+1)).flatten=(LL.take k).flatten ++ LL.getD k []:=by
 rw[List.take_succ_eq_append_getElem h,List.flatten_append,List.getD_eq_getElem?_getD,List.getElem?_eq_getElem h]
 simp
theorem fr_concat(a:OA_)(n c:Nat)(LL:List (List Fx))(w:World)(h:Fxss w a n c LL)(hn:n≤10)(hl:∀L∈LL,L.length≤300)(hr:∀L∈LL,∀x∈L,x.right):Calls Tryz.prog 122 #[.slice a n c] w (LstRow 44 (fqs LL.flatten) w):=by
 have hbd:=h.bound
 have HK:=hd_ h
 have HLl:=hd_ h.len
 have HL:=hd_ hl
 have HR:=hd_ hr
 have HF:=hd_ (flat_len hl)
 clear h hl hr
 obtain⟨i0,hi,hz0,hz1,hz2⟩:=info_parts du_
 go_enter Tryz.func122,Tryz.ntmps122
 go_wp2
 go_loopw [3,11] (fun sv iv wr=>∃k s:Nat,k≤n∧iv=.int .i64 (k:Int)∧sv=.int .i64 (s:Int)∧s≤3000∧Hid ((LL.take k).flatten.length=s)∧Hid (Below w.heap.size w wr)) (fun _ iv _=>n - (intOf iv).toNat)
 case atStart=>exact⟨0,0,by omega,rfl,rfl,by omega,hd_ (by simp),hd_ (Below.refl _ _)⟩
 case round=>
  obtain⟨k,s,hk,rfl,rfl,hs9,HS,HB⟩:=hrel
  by_cases hlt:k < n
  ·obtain⟨bb,off,rfl,a1,n1,c1,e0,h1⟩:=(HK.out.later HB.out).at hlt
   have hki:(k:Int) < (n:Int):=by omega
   have hm:LL.getD k []∈LL:=by
    rw[List.getD_eq_getElem?_getD,List.getElem?_eq_getElem (by rw[HLl.out];exact hlt)]
    exact List.getElem_mem _
   have h2:=HF.out (k+1)
   rw[jb_ (by rw[HLl.out];exact hlt),List.length_append,h1.len,HS.out] at h2
   obtain⟨s2,hs2⟩:∃s2,s+n1=s2:=⟨_,rfl⟩
   have HS2:Hid ((LL.take (k+1)).flatten.length=s2):=hd_ (by rw[jb_ (by rw[HLl.out];exact hlt),List.length_append,h1.len,HS.out,hs2])
   have hsi:(s:Int)+(n1:Int)=(s2:Int):=by omega
   have hw:IntKind.i64.wrap (s2:Int)=(s2:Int):=by rw[IntKind.wrap_i64];omega
   have hs3:s2≤3000:=by omega
   have hneg:¬(s2:Int) < 0:=by omega
   clear h1 hm h2 hs2 HS
   go_wp2
   go_roundw
   case rel=>exact⟨k+1,s2,by omega,by go_num,rfl,hs3,HS2,HB⟩
   case measure=>simp[intOf];omega
  ·obtain rfl:k=n:=by omega
   have hki:¬(k:Int) < (k:Int):=by omega
   go_wp2_with fail
   refine (fr_grow s _ (by omega)).mono ?_
   rintro e w1 ⟨v,rfl,h1,bw⟩
   have R1:=hd_ (iv_ h1 HB.out.size)
   have HB1:=hd_ (ab_ HB.out bw)
   clear h1 bw HB HS
   go_wp2
   go_loopw [6,27] (fun nv iv wr=>∃j:Nat,j≤k∧iv=.int .i64 (j:Int)∧Hid (Row wr w.heap.size 44 nv (fqs (LL.take j).flatten))∧Hid (Below w.heap.size w wr)) (fun _ iv _=>k - (intOf iv).toNat)
   case atStart=>exact⟨0,by omega,rfl,R1,HB1⟩
   case round=>
    clear R1 HB1
    obtain⟨j,hj,rfl,HO,HB⟩:=hrel
    by_cases hlt:j < k
    ·obtain⟨bb,off,rfl,a1,n1,c1,e0,h1⟩:=(HK.out.later HB.out).at hlt
     have hji:(j:Int) < (k:Int):=by omega
     have hm:LL.getD j []∈LL:=by
      rw[List.getD_eq_getElem?_getD,List.getElem?_eq_getElem (by rw[HLl.out];exact hlt)]
      exact List.getElem_mem _
     have h2:=HF.out j
     have h3:=HL.out _ hm
     have HX:Hid (Rw wr a1 n1 c1 (fqs (LL.getD j []))):=hd_ ⟨_,h1,rfl,HR.out _ hm⟩
     have HE:Hid (fqs (LL.take (j+1)).flatten=fqs (LL.take j).flatten ++ fqs (LL.getD j [])):=hd_ (by rw[jb_ (by rw[HLl.out];exact hlt)];unfold fqs;rw[List.map_append])
     have hlen:(fqs (LL.take j).flatten).length+n1≤1000000:=by rw[ap_,←h1.len];omega
     generalize fqs (LL.getD j [])=rs at *
     generalize fqs (LL.take j).flatten=qs at *
     clear h1 hm h2 h3
     go_wp2_with (at_builtin;refine hi_ _ rfl _ _ 33 rfl w.heap.size 44 i0 Tryz.underlying33 hi hz0 hz1 hz2 _ qs rfl HO.out a1 n1 c1 rs rfl HX.out hlen HB.out.size ?_;intro v6 w6 hrow hgrow hbase hcl)
     have HO5:Hid (Row w6 w.heap.size 44 v6 (fqs (LL.take (j+1)).flatten)):=hd_ (by rw[HE.out];exact hrow)
     have HB5:=hd_ (HB.out.grown hgrow HB.out.size hbase)
     clear hrow hgrow hbase hcl HO HX HE
     go_wp2
     go_roundw
     case rel=>exact⟨j+1,by omega,by go_num,HO5,HB5⟩
     case measure=>simp[intOf];omega
    ·obtain rfl:j=k:=by omega
     have HE:Hid ((LL.take j).flatten=LL.flatten):=hd_ (by rw[List.take_of_length_le (by rw[HLl.out];exact Nat.le_refl _)])
     obtain⟨a9,c9,rfl,-⟩:=HO.out.out
     rw[HE.out] at HO ⊢
     go_wp2
     go_ret
     exact⟨.slice a9 _ c9,rfl,HO.out,HB.out⟩
theorem k5_{i N:Nat}(hi:i < N):∀(r:List (List Rat)) (l:LR_),l.length=N→(∀x∈r,x.length=N)→(r.foldl radd l).length=N∧(r.foldl radd l).getD i 0=l.getD i 0+rsum (r.map (fun x=>x.getD i 0))
 | [],l,hl,_=>⟨hl,by show l.getD i 0=l.getD i 0+0;grind⟩
 | x :: r,l,hl,h=>by
   have hx:=h x (List.mem_cons_self ..)
   have h1:(radd l x).length=N:=by rw[c5_ l x (hl.trans hx.symm)];exact hl
   obtain⟨h2,h3⟩:=k5_ hi r (radd l x) h1 (fun y hy=>h y (List.mem_cons_of_mem _ hy))
   refine ⟨h2,?_⟩
   show (r.foldl radd (radd l x)).getD i 0=l.getD i 0+(x.getD i 0+rsum (r.map (fun x=>x.getD i 0)))
   rw[h3,g8_ (by omega) (by omega)]
   grind
theorem e6_{N:Nat}:∀(r:List (List Rat)) (l:LR_),l.length=N→(∀x∈r,x.length=N)→(r.foldl radd l).length=N
 | [],_,hl,_=>hl
 | x :: r,l,hl,h=>by
   have hx:=h x (List.mem_cons_self ..)
   exact e6_ r (radd l x) (by rw[c5_ l x (hl.trans hx.symm)];exact hl) (fun y hy=>h y (List.mem_cons_of_mem _ hy))
theorem col_vals{LL:List (List Fx)}{i:Nat}(h:∀L∈LL,i < L.length):(LL.map fqs).map (fun x=>x.getD i 0)=fqs (colF LL i):=by
 unfold colF fqs
 rw[List.map_map,List.map_map]
 exact List.map_congr_left (fun L hL=>cu_ (h L hL))
theorem radd_col{LL:List (List Fx)}{i N:Nat}(hi:i < N)(hN:∀L∈LL,L.length=N)(h0:0 < LL.length):(id_ (LL.map fqs)).getD i 0=rsum (fqs (colF LL i)):=by
 match LL,h0 with
 | l :: r,_=>
   show ((r.map fqs).foldl radd (fqs l)).getD i 0=(l.getD i Fx.zero).q+rsum (fqs (colF r i))
   rw[(k5_ hi (r.map fqs) (fqs l) (by rw[ap_];exact hN l (List.mem_cons_self ..)) (fun x hx=>by
    obtain⟨y,hy,rfl⟩:=List.mem_map.1 hx
    rw[ap_];exact hN y (List.mem_cons_of_mem _ hy))).2,col_vals (fun L hL=>by rw[hN L (List.mem_cons_of_mem _ hL)];exact hi),cu_ (by rw[hN l (List.mem_cons_self ..)];exact hi)]
theorem kt_{LL:List (List Fx)}{N:Nat}(hN:∀L∈LL,L.length=N)(h0:0 < LL.length):(id_ (LL.map fqs)).length=N:=by
 match LL,h0 with
 | l :: r,_=>
   exact e6_ (r.map fqs) (fqs l) (by rw[ap_];exact hN l (List.mem_cons_self ..)) (fun x hx=>by
    obtain⟨y,hy,rfl⟩:=List.mem_map.1 hx
    rw[ap_];exact hN y (List.mem_cons_of_mem _ hy))
theorem colF_thin{LL:List (List Fx)}{i K:Nat}(h:∀L∈LL,thin K L)(hi:∀L∈LL,i < L.length):thin K (colF LL i):=fun x hx=>by
 obtain⟨L,hL,rfl⟩:=List.mem_map.1 hx
 exact h L hL _ (d8_ (hi L hL))
theorem even_all{LL:List (List Fx)}{L0:List Fx}(h0:L0∈LL):(∀M∈LL,(M.length:Int)=(L0.length:Int))↔even (LL.map fqs):=by
 unfold even
 constructor
 ·intro h x hx y hy
  obtain⟨x',hx',rfl⟩:=List.mem_map.1 hx
  obtain⟨y',hy',rfl⟩:=List.mem_map.1 hy
  have h1:=h x' hx'
  have h2:=h y' hy'
  rw[ap_,ap_]
  omega
 ·intro h M hM
  have h1:=h (fqs M) (List.mem_map.2 ⟨M,hM,rfl⟩) (fqs L0) (List.mem_map.2 ⟨L0,h0,rfl⟩)
  rw[ap_,ap_] at h1
  omega
theorem nl_(a:OA_)(n c:Nat)(LL:List (List Fx))(w:World)(h:Fxss w a n c LL)(hn:n≤10)(N9:Nat)(hb9:1+(n - 1) * (N9+3)≤2097152000)(hN9:N9≤2097152000)(hl:∀L∈LL,L.length≤300∧thin N9 L)(h2:2≤n)(hb:even (LL.map fqs)):Calls Tryz.prog 121 #[.slice a n c] w (qg_ (id_ (LL.map fqs)) (.bool true) w):=by
 obtain⟨bb,off,rfl,a1,n1,c1,e0,h1⟩:=h.at (j:=0) (by omega)
 have hbd:=h.bound
 have hm0:LL.getD 0 []∈LL:=ll_mem (by rw[h.len];omega)
 have e0':w.cell? ⟨bb,off,none⟩=some (.slice a1 n1 c1):=by simpa using e0
 have HALL:=even_all hm0
 rw[h1.len] at HALL
 have hz0:((n:Int) == 0)=false:=by simp;omega
 have hz1:((n:Int) == 1)=false:=by simp;omega
 have hi0:(0:Int) < (n:Int):=by omega
 have hbd1:=h1.bound
 have HK:=hd_ h
 have hN:∀L∈LL,L.length=n1:=fun L hL=>by have:=HALL.2 hb L hL;omega
 have hn1:n1≤300:=by rw[←hN _ hm0];exact (hl _ hm0).1
 have HYES:=hd_ (show ∀w':World,Below w.heap.size w w'→Calls Tryz.prog 146 #[.slice (some ⟨bb,off,none⟩) n c,.int .i64 (n1:Int)] w' (fun e w''=>e=.returned (.bool true)∧w'=w'') from fun w' hw=>row_allOf _ n c LL (n1:Int) true w' (h.later hw) (hd_ ⟨fun _=>HALL.2 hb,fun _=>rfl⟩))
 have HCOL:=hd_ (show ∀(k:Nat) (w':World),k < n1→Below w.heap.size w w'→Calls Tryz.prog 147 #[.slice (some ⟨bb,off,none⟩) n c,.int .i64 (k:Int)] w' (fun e w''=>∃(a':OA_) (c':Nat),e=.returned (.slice a' n c')∧Fxs w'' a' n c' (colF LL k)∧Below w'.heap.size w' w'') from fun k w' hk hw=>rl_ _ n c LL k w' (h.later hw) (by omega) (fun M hM=>by rw[hN M hM];exact hk))
 have HTOT:=hd_ (show ∀(k:Nat) (a':OA_) (c':Nat) (w':World),k < n1→Fxs w' a' n c' (colF LL k)→Calls Tryz.prog 145 #[.slice a' n c'] w' (LstQ (rsum (fqs (colF LL k))) w') from fun k a' c' w' hk hf=>(m5_ n a' c' (colF LL k) N9 w' hf (colF_thin (fun L hL=>(hl L hL).2) (fun L hL=>by rw[hN L hL];exact hk)) hb9 hN9).mono fun e w'' h9=>h9.many (by rw[ja_,h.len];omega))
 have HTL0:(id_ (LL.map fqs)).length=n1:=kt_ hN (by rw[h.len];omega)
 have HTV0:∀k,k < n1→(id_ (LL.map fqs)).getD k 0=rsum (fqs (colF LL k)):=fun k hk=>radd_col hk hN (by rw[h.len];omega)
 obtain⟨T,hTe⟩:∃T,id_ (LL.map fqs)=T:=⟨_,rfl⟩
 rw[hTe] at HTL0 HTV0 ⊢
 have HTL:=hd_ HTL0
 have HTV:=hd_ HTV0
 have HB00:Hid (Below w.heap.size w w):=hd_ (Below.refl _ _)
 clear h h1 hm0 HALL hb HK e0 hl hN HTL0 HTV0 hTe
 obtain⟨i0,hi,hy0,hy1,hy2⟩:=info_parts du_
 go_enter Tryz.func121,Tryz.ntmps121
 go_wp2_with fail
 refine (HYES.out _ (Below.refl _ _)).mono ?_
 rintro e w' ⟨rfl,rfl⟩
 go_wp2_with (at_make;refine ca_ _ rfl _ _ 33 rfl (w.heap.size) 44 i0 Tryz.underlying33 hi hy0 hy1 hy2 _ _ _ _ n1 rfl rfl (by omega) (by omega) (by omega) (by simp) ?_;intro wm hmade hgm hszm)
 have HO0:=hd_ (Half.start hmade)
 have HB0:Hid (Below w.heap.size w wm):=hd_ ((Below.refl _ _).grown hgm (Nat.le_refl _) (fun k hk=>by cases hk))
 clear hmade hgm HB00
 go_loopw [29] (fun iv wr=>∃k r:Nat,k+r=n1∧iv=.int .i64 (k:Int)∧Hid (Half wr w.heap.size 44 (.slice (some ⟨w.heap.size,0,none⟩) n1 n1) (T.take k) r)∧Hid (Below w.heap.size w wr)∧w.heap.size < wr.heap.size) (fun iv _=>n1 - (intOf iv).toNat)
 case atStart=>exact⟨0,n1,by omega,rfl,HO0,HB0,by omega⟩
 case round=>
  clear HO0 HB0
  obtain⟨k,r,hk,rfl,HO,HB,hsz⟩:=hrel
  by_cases hlt:k < n1
  ·have hkT:k < T.length:=by rw[HTL.out];exact hlt
   obtain⟨r,rfl⟩:∃r',r=r'+1:=⟨r - 1,by omega⟩
   have HT:Hid (T.take (k+1)=T.take k ++ [T.getD k 0]):=hd_ (nj_ hkT)
   have HTv:=hd_ (HTV.out k hlt)
   generalize T.getD k 0=tk at *
   have hki:(k:Int) < (n1:Int):=by omega
   have hk0:(0:Int)≤(k:Int):=by omega
   go_wp2_with fail
   refine (HCOL.out k _ hlt HB.out).mono ?_
   rintro e w3 ⟨a3,c3,rfl,h3,bw⟩
   replace HB:=bt_ HB bw
   replace HO:=HO.l_ bw
   replace hsz:=Nat.lt_of_lt_of_le hsz bw.size
   have H3:=hd_ h3
   clear bw h3
   go_wp2_with fail
   refine (HTOT.out k a3 c3 _ hlt H3.out).mono ?_
   rintro e w4 ⟨a4,n4,c4,b4,m4,d4,rfl,h4,g4,bw⟩
   rw[←HTv.out] at h4 g4 ⊢
   replace HB:=bt_ HB bw
   replace HO:=HO.l_ bw
   have hsz4:w.heap.size < w4.heap.size:=Nat.lt_of_lt_of_le hsz bw.size
   clear bw hsz H3
   obtain⟨⟨p0,p1,p2⟩,f0,f1,f2⟩:=HO.out.cell (k:=k) (by rw[dq_ (Nat.le_of_lt hkT)])
   obtain⟨hst,hgr⟩:=HO.out.stored (k:=k) (by rw[dq_ (Nat.le_of_lt hkT)]) tk a4 n4 c4 b4 m4 d4 h4 g4
   rw[←HT.out] at hst
   have HS:=hd_ hst
   have HB5:=hd_ (HB.out.grown hgr HB.out.size (fun g' hg'=>by simp at hg';omega))
   have hsz5:=Nat.lt_of_lt_of_le hsz4 hgr.size
   clear hst hgr h4 g4 HO HB HT HTv
   unfold frV
   go_wp2
   go_roundw
   case rel=>exact⟨k+1,r,by omega,by go_num,HS,HB5,hsz5⟩
   case measure=>simp[intOf];omega
  ·obtain rfl:k=n1:=by omega
   have HF:=hd_ (HO.out.whole HTL.out (by omega))
   obtain⟨a9,c9,e9,h9⟩:=HF.out.out
   rw[HTL.out] at e9 h9
   cases e9
   have HF9:=hd_ h9
   clear HO h9 HF
   go_wp2
   go_ret2
   exact⟨_,_,_,rfl,HF9.out,HB.out⟩
end Go.Proofs.YtocebjbjnfammaaGreat
