import Derived.Test.YtmjenlogbkbgnaaGreatDoorC00
import Derived.BigQuiet
import Derived.BigRegion
namespace Go.Proofs.YtmjenlogbkbgnaaGreatDoor
open Go.RowKit Go.Shelf
set_option linter.unusedVariables false
set_option linter.unusedSimpArgs false
set_option maxRecDepth 100000
set_option maxHeartbeats 16000000
def loansN (ps:List Pnt):Nat:=(ps.filter fun p=>decide (p.op=4)).length
theorem loansN_next {ps:List Pnt} {i:Nat} {p:Pnt} (h:ps[i]?=some p):loansN (ps.take (i+1))=loansN (ps.take i)+(if p.op=4 then 1 else 0):=by
 unfold loansN
 rw [List.take_add_one,h]
 simp only [Option.toList_some,List.filter_append,List.length_append]
 congr 1
 by_cases e:p.op=4 <;> simp [e]
theorem loans_any (nm:ByteArray) (lv:Int) (oa:Option Addr) (on oc:Nat) (pa:Int) (la:Option Addr) (ln lc:Nat) (na:Option Addr) (nn nc:Nat) (qa:Option Addr) (qn qc:Nat) (sa:Option Addr) (sn sc:Nat) (im:Bool) (w:World)
  (ps:List Pnt) (hP:PsL w qa qn qc ps) (hqn:qn≤1024) (r:Bool) (hr:r=decide (loansN ps≤256)) :
  Calls Tryz.prog 171 #[hV nm lv oa on oc pa la ln lc na nn nc qa qn qc sa sn sc im] w fun e w'=>e=.returned (.bool r)∧Below w.heap.size w w':=by
 have HH:Hid (At (w.alloc (hO nm lv oa on oc pa la ln lc na nn nc qa qn qc sa sn sc im)) w.heap.size (hO nm lv oa on oc pa la ln lc na nn nc qa qn qc sa sn sc im)):=At.new _ _
 have HPS:=jH hP
 have HR:=jH hr
 have q0:(qn:Int)≤1024:=by omega
 obtain ⟨V0,hV0⟩:∃ V0,V0=w.alloc (hO nm lv oa on oc pa la ln lc na nn nc qa qn qc sa sn sc im):=⟨_,rfl⟩
 have HB0:Hid (Below w.heap.size w V0):=jH (by rw [hV0];exact belA bR)
 rw [← hV0] at HH
 clear hP hr hqn
 obtain ⟨d0,d1,d2,d3,d4,d5,d6,d7,d8⟩:=HH.out.hd
 go_enter Tryz.func171,Tryz.ntmps171
 go_upto_region 1 with fail
 rw [← hV0]
 clear hV0
 go_wp2_with fail
 clear d0 d1 d2 d3 d4 d5 d6 d7 d8 HH
 go_loopw [3,10] (fun v3 v V=>∃ i:Nat,i≤qn∧v3=.int .i64 (loansN (ps.take i):Int)∧v=.int .i64 (i:Int)∧Below w.heap.size w V) (fun _ v _=>qn - (intOf v).toNat)
 case atStart=>exact ⟨0,Nat.zero_le _,rfl,rfl,HB0.out⟩
 case round =>
  clear HB0
  obtain ⟨i,hi,rfl,rfl,hB⟩:=hrel
  have HB:=jH hB
  clear hB
  by_cases hlt:i<qn
  ·obtain ⟨p,hp⟩:∃ p,ps[i]?=some p:=⟨_,List.getElem?_eq_getElem (by rw [← HPS.out.len];exact hlt)⟩
   obtain ⟨pg,po,pv,ep,hpg,hrng,hpnt⟩:=HPS.out.at_ i p hp
   have ep2:qa=some ⟨pg,po,none⟩:=ep
   subst ep2
   have HRNG:Hid (wr.rangeAt pg (po+i*21) (pC pv)):=jH (rng_bel hpg hrng HB.out)
   obtain ⟨m,hm⟩:∃ m,m=loansN (ps.take i):=⟨_,rfl⟩
   have HM:=jH hm
   have HNX:=jH (loansN_next hp)
   have m0:(m:Int)≤1024:=by
    have:m≤i:=by rw [hm];unfold loansN;exact Nat.le_trans (List.length_filter_le _ _) (by simp;omega)
    omega
   obtain ⟨op,hop⟩:∃ op,op=pv.op:=⟨_,rfl⟩
   have HOP:Hid (op=p.op):=jH (by rw [hop];exact hpnt.op)
   have HOP2:=jH hop
   rw [← hm]
   have i0:(0:Int)≤(i:Int):=by omega
   have i1:(i:Int)<(qn:Int):=by omega
   have HLT:=jH hlt
   clear hp hrng hpnt ep hlt hi hpg hm hop
   by_cases h4:op=4
   ·have o1:((op:Int) == 4)=true:=by rw [h4];rfl
    have HE:Hid (op=4):=h4
    clear h4
    go_wp2_with (first
     | ((with_reducible show wpList _ _ _ (Oper.mk (some _) (Op.load 118 _) _ _ _ none::_) _ _);refine wpl_load64 pg (po+i*21) (pC pv) rfl rfl HRNG.out Tryz.underlying118 rfl ?_)
     | ((with_reducible show wpList _ _ _ (Oper.mk none (Op.store 118 _ _) _ _ _ none::_) _ _);refine wpl_store64 wr.heap.size (there_new wr _ _ 21 rfl) (by simp) pv rfl rfl ?_;intro w3 hr3 hl3 hb3;have c0:w3.cell? ⟨wr.heap.size,0,none⟩=some (.int .u8 (op:Int)):=(by rw [HOP2.out];exact hr3 0 _ rfl);have HB3:=jH (belBut (belA HB.out) hb3 HB.out.size (by have:=HB.out.size;simp;omega));clear hr3 hb3))
    refine ⟨⟨i+1,HLT.out,?_,rfl,HB3.out⟩,?_⟩
    ·rw [HNX.out,if_pos (by rw [← HOP.out];exact HE.out),← HM.out];rfl
    ·show qn - ((i:Int)+1).toNat<qn - (i:Int).toNat
     have:=HLT.out
     omega
   ·have o1:((op:Int) == 4)=false:=by simp;omega
    have HE:Hid (¬ op=4):=h4
    clear h4
    go_wp2_with (first
     | ((with_reducible show wpList _ _ _ (Oper.mk (some _) (Op.load 118 _) _ _ _ none::_) _ _);refine wpl_load64 pg (po+i*21) (pC pv) rfl rfl HRNG.out Tryz.underlying118 rfl ?_)
     | ((with_reducible show wpList _ _ _ (Oper.mk none (Op.store 118 _ _) _ _ _ none::_) _ _);refine wpl_store64 wr.heap.size (there_new wr _ _ 21 rfl) (by simp) pv rfl rfl ?_;intro w3 hr3 hl3 hb3;have c0:w3.cell? ⟨wr.heap.size,0,none⟩=some (.int .u8 (op:Int)):=(by rw [HOP2.out];exact hr3 0 _ rfl);have HB3:=jH (belBut (belA HB.out) hb3 HB.out.size (by have:=HB.out.size;simp;omega));clear hr3 hb3))
    refine ⟨⟨i+1,HLT.out,?_,rfl,HB3.out⟩,?_⟩
    ·rw [HNX.out,if_neg (by rw [← HOP.out];exact HE.out),← HM.out];rfl
    ·show qn - ((i:Int)+1).toNat<qn - (i:Int).toNat
     have:=HLT.out
     omega
  ·obtain rfl:i=qn:=by omega
   have lt:¬ (i:Int)<(i:Int):=by omega
   clear hlt hi
   obtain ⟨m,hm⟩:∃ m,m=loansN (ps.take i):=⟨_,rfl⟩
   have HM:=jH hm
   rw [← hm]
   clear hm
   go_wp2_with fail
   go_ret
   refine ⟨?_,HB.out⟩
   rw [HR.out]
   have e:m=loansN ps:=by rw [HM.out,HPS.out.len,List.take_length]
   rw [← e]
   show Ending.returned (.bool (decide ((m:Int)≤256)))=_
   congr 2
   rw [Bool.eq_iff_iff]
   simp
   omega
def Rel (w:World) (b:Nat) (M:Nat→Nat→Bool):Prop:=b<w.heap.size∧∀ i j,i<8→j<8→w.cell? ⟨b,i*8+j,none⟩=some (.bool (M i j))
theorem Rel.bel {w w':World} {b:Nat} {M:Nat→Nat→Bool} (h:Rel w b M) (hb:Below w.heap.size w w'):Rel w' b M :=
 ⟨Nat.lt_of_lt_of_le h.1 hb.size,fun i j hi hj=>(hb.cell (p:=⟨b,i*8+j,none⟩) h.1).trans (h.2 i j hi hj)⟩
theorem Rel.but {w w':World} {b c:Nat} {M:Nat→Nat→Bool} (h:Rel w b M) (hb:But c w w') (hn:b≠c):Rel w' b M:=by
 have hblk:w'.heap[b]?=w.heap[b]?:=hb.block b h.1 (by simp;omega)
 refine ⟨Nat.lt_of_lt_of_le h.1 hb.size,fun i j hi hj=>?_⟩
 have:=h.2 i j hi hj
 unfold World.cell? at this ⊢
 simp only [hblk]
 exact this
structure IJ (w0 W:World) (b5 b2 br:Nat) (M:Nat→Nat→Bool) (v:Bool):Prop where
 al:At W b5 (One (.bool v) 4)
 pt:At W b2 (One (.pointer (some ⟨br,0,none⟩)) 279)
 rel:Rel W br M
 bel:Below w0.heap.size w0 W
 ne2:b2≠b5
 ner:br≠b5
 lo:w0.heap.size≤b5
theorem IJ.aft {w0 W W':World} {b5 b2 br:Nat} {M:Nat→Nat→Bool} {v:Bool} (h:IJ w0 W b5 b2 br M v) (hb:Below W.heap.size W W'):IJ w0 W' b5 b2 br M v:=⟨h.al.below hb,h.pt.below hb,h.rel.bel hb,jB h.bel hb,h.ne2,h.ner,h.lo⟩
theorem IJ.set {w0 W:World} {b5 b2 br:Nat} {M:Nat→Nat→Bool} {v:Bool} (h:IJ w0 W b5 b2 br M v) (u:Bool):IJ w0 (W.setCell ⟨b5,0,none⟩ (.bool u)) b5 b2 br M u∧But b5 W (W.setCell ⟨b5,0,none⟩ (.bool u)):=by
 have hb:But b5 W (W.setCell ⟨b5,0,none⟩ (.bool u)):=(But.refl b5 W).set 0 _
 exact ⟨⟨h.al.setOne _,h.pt.grown hb (by simp;exact h.ne2),h.rel.but hb h.ner,belBut h.bel hb h.lo h.bel.size,h.ne2,h.ner,h.lo⟩,hb⟩
def imB (M:Nat→Nat→Bool) (o:Int × Int):Bool:=decide (o.1=o.2) || M o.1.toNat o.2.toNat
abbrev fnI (b5 b2:Nat):Value:=.func (.func 209) #[] #[.pointer (some ⟨b5,0,none⟩),.pointer (some ⟨b2,0,none⟩)]
theorem implied1_any {w0 W:World} {b5 b2 br:Nat} {M:Nat→Nat→Bool} {v:Bool} (h:IJ w0 W b5 b2 br M v) (i j:Nat) (hi:i<8) (hj:j<8) (u:Bool) (hu:u=(v && imB M ((i:Int),(j:Int)))) :
  Calls Tryz.prog 209 #[.int .i64 (i:Int),.int .i64 (j:Int),.pointer (some ⟨b5,0,none⟩),.pointer (some ⟨b2,0,none⟩)] W fun e w'=>e=.returned (.tuple #[])∧IJ w0 w' b5 b2 br M u∧But b5 W w':=by
 have FIN:=jH (h.set u)
 obtain ⟨c5,f5⟩:=h.al.one
 obtain ⟨c2,-⟩:=h.pt.one
 have cr:=h.rel.2 i j hi hj
 have hl:=h.rel.1
 obtain ⟨x,hx⟩:∃ x,x=M i j:=⟨_,rfl⟩
 rw [← hx] at cr
 have hu2:u=(v && (decide ((i:Int)=(j:Int)) || x)):=by rw [hu,hx];simp [imB]
 have i0:(0:Int)≤(i:Int):=by omega
 have i1:(i:Int)<8:=by omega
 have j0:(0:Int)≤(j:Int):=by omega
 have j1:(j:Int)<8:=by omega
 clear h hu hx hi hj
 cases v with
 | false =>
  have hu3:u=false:=hu2
  subst hu3
  clear hu2
  go_enter Tryz.func209,Tryz.ntmps209
  go_wp2_with fail
  go_end0
  exact ⟨rfl,FIN.out.1,FIN.out.2⟩
 | true =>
  by_cases e:(i:Int)=(j:Int)
  ·have hu3:u=true:=by rw [hu2,decide_eq_true e];rfl
   subst hu3
   have e2:((i:Int) == (j:Int))=true:=by simpa using e
   clear hu2
   go_enter Tryz.func209,Tryz.ntmps209
   go_wp2_with fail
   go_end0
   exact ⟨rfl,FIN.out.1,FIN.out.2⟩
  ·have hu3:u=x:=by rw [hu2,decide_eq_false e];simp
   subst hu3
   have e2:((i:Int) == (j:Int))=false:=by simpa using e
   clear hu2
   go_enter Tryz.func209,Tryz.ntmps209
   go_wp2_with fail
   go_end0
   exact ⟨rfl,FIN.out.1,FIN.out.2⟩
def imC (M:Nat→Nat→Bool) (c:Ch):Bool:=(implC c).all (imB M)
theorem imC_ref (M:Nat→Nat→Bool) (m:Bool) (r:Int) (c:Ch):imC M (.ref m r c)=((c.regs.all fun l=>imB M (l,r)) && imC M c):=by
 unfold imC
 simp only [implC,List.all_append,List.all_map]
 rfl
theorem all_take_next {α:Type} {l:List α} {p:α→Bool} {k:Nat} {x:α} (h:l[k]?=some x):(l.take (k+1)).all p=((l.take k).all p && p x):=by
 rw [List.take_add_one,h]
 simp [List.all_append]
theorem imply_any {w0:World} {b5 b2 br:Nat} {M:Nat→Nat→Bool}:∀ (c:Ch) (f:Fv) (W:World) (v:Bool),Ok c→(∀ q∈c.regs,0≤q∧q<8)→TyAt w0 f c.ty→IJ w0 W b5 b2 br M v →
  Calls Tryz.prog 208 #[f.v,fnI b5 b2] W fun e w'=>e=.returned (.tuple #[])∧IJ w0 w' b5 b2 br M (v && imC M c)∧But b5 W w':=by
 intro c
 induction c with
 | leaf k s =>
  intro f W v hc hq h hJ
  obtain ⟨a,cap,rfl,-⟩:=h.leaf
  have FIN:Hid (IJ w0 (W.alloc (tyO k false 0 s a 0 cap)) b5 b2 br M (v && imC M (.leaf k s))∧But b5 W (W.alloc (tyO k false 0 s a 0 cap))):=jH ⟨by rw [show imC M (.leaf k s)=true from rfl,Bool.and_true];exact hJ.aft (belA bR),But.below (belA bR)⟩
  show Calls Tryz.prog 208 #[tyV k false 0 s a 0 cap,fnI b5 b2] W _
  clear hJ h hc hq
  go_enter Tryz.func208,Tryz.ntmps208
  go_wp2_with fail
  exact bodyPost_ret (results_none rfl _ _ _) rfl ⟨rfl,FIN.out.1,FIN.out.2⟩
 | box c ih =>
  intro f W v hc hq h hJ
  obtain ⟨g,off,cap,f',rfl,hc5,ht⟩:=h.box
  have hJ1:=hJ.aft (belA bR:Below W.heap.size W (W.alloc (tyO 3 false 0 0 (some ⟨g,off,none⟩) 1 cap)))
  have IH:=jH (ih f' _ v ⟨hc.ok,by have:=hc.deep;simp [Ch.depth] at this;omega⟩ hq ht hJ1)
  obtain ⟨hg,p0,p1,p2,p3,p4⟩:=hc5.below hJ.bel
  obtain ⟨k',m',r',s',a',n',cap'⟩:=f'
  show Calls Tryz.prog 208 #[tyV 3 false 0 0 (some ⟨g,off,none⟩) 1 cap,fnI b5 b2] W _
  clear hJ1 hJ h hc hq ih ht hc5
  go_enter Tryz.func208,Tryz.ntmps208
  go_wp2_with (go_at_call 208;refine IH.out.mono ?_;rintro e w1 ⟨rfl,hj1,hb1⟩;have H1:=jH hj1;have H2:Hid (But b5 W w1):=jH ((But.below (belA bR)).trans hb1);clear hj1 hb1)
  go_end0
  exact ⟨rfl,H1.out,H2.out⟩
 | ref m r c ih =>
  intro f W v hc hq h hJ
  obtain ⟨g,off,cap,f',rfl,hc5,ht,r0,r1⟩:=h.ref
  have hoc:Ok c:=⟨hc.ok.2,by have:=hc.deep;simp [Ch.depth] at this;omega⟩
  have hqc:∀ q∈c.regs,0≤q∧q<8:=fun q hq'=>hq q (by simp [Ch.regs,hq'])
  have hr:0≤r∧r<8:=hq r (by simp [Ch.regs])
  obtain ⟨j,rfl⟩:∃ j:Nat,r=(j:Int):=⟨r.toNat,by omega⟩
  obtain ⟨W1,hW1⟩:∃ W1,W1=W.alloc (.cells #[.int .u8 4,.bool m,.int .i64 (j:Int),.int .i64 0,.slice (some ⟨g,off,none⟩) 1 cap] 43 (0,0)):=⟨_,rfl⟩
  have hJ1:IJ w0 W1 b5 b2 br M v:=by rw [hW1];exact hJ.aft (belA bR)
  have hb5:b5<W.heap.size:=hJ.al.lt
  have HA1:Hid (At W1 W.heap.size (Fv.o ⟨4,m,(j:Int),0,some ⟨g,off,none⟩,1,cap⟩)):=jH (by rw [hW1];exact At.new _ _)
  have HBW:Hid (Below W.heap.size W W1):=jH (by rw [hW1];exact belA bR)
  have HJ1:=jH hJ1
  have CR:=jH (Regions_yes c f' W1 hoc (ht.bel hJ1.bel))
  have IH:Hid (∀ (V:World) (u:Bool),IJ w0 V b5 b2 br M u→Calls Tryz.prog 208 #[f'.v,fnI b5 b2] V fun e w'=>e=.returned (.tuple #[])∧IJ w0 w' b5 b2 br M (u && imC M c)∧But b5 V w'):=fun V u hV=>ih f' V u hoc hqc ht hV
  have PC:Hid (∀ V,Below w0.heap.size w0 V→C5 V g off f'):=fun V hV=>hc5.below hV
  have HQC:=jH hqc
  have HJ8:Hid (j<8):=by show j<8;omega
  have HDE:Hid (c.regs.length≤48):=by have h1:=regs_le c;have h2:=hoc.deep;show c.regs.length≤48;omega
  have HB5:=jH hb5
  obtain ⟨k',m',r',s',a',n',cap'⟩:=f'
  obtain ⟨-,q0,q1,q2,q3,q4⟩:=At.ty (f:=⟨4,m,(j:Int),0,some ⟨g,off,none⟩,1,cap⟩) HA1.out
  simp only [Nat.zero_add] at q0 q1 q2 q3 q4
  obtain ⟨hg,p0,p1,p2,p3,p4⟩:=PC.out W1 HJ1.out.bel
  show Calls Tryz.prog 208 #[tyV 4 m (j:Int) 0 (some ⟨g,off,none⟩) 1 cap,fnI b5 b2] W _
  have hlt1:=HA1.out.lt
  clear hJ1 hJ h hc hq ih ht hc5 hoc hqc hr r0 r1 hb5
  go_enter Tryz.func208,Tryz.ntmps208
  go_upto_region 1 with fail
  rw [← hW1]
  clear hW1
  go_wp2_with (go_at_call 22;refine CR.out.mono ?_;rintro e w2 ⟨⟨vr,rfl,hrow⟩,hb2⟩;have HJ2:=jH (HJ1.out.aft hb2);have HA2:=jH (HA1.out.below hb2);have HT2:Hid (But b5 W w2):=jH ((But.below HBW.out).trans (But.below hb2));have HW:=jH hrow;obtain ⟨ra,rc,hv⟩:=own_sl hrow;subst hv;clear hb2 hrow)
  obtain ⟨n,hn⟩:∃ n,n=c.regs.length:=⟨_,rfl⟩
  have HN:=jH hn
  rw [← hn] at HW ⊢
  have n0:(n:Int)≤48:=by have:=HDE.out;omega
  have HLO:Hid (b5<W1.heap.size):=jH HJ1.out.al.lt
  clear hn q0 q1 q2 q3 q4 p0 p1 p2 p3 p4 hg CR HJ1 HA1 HBW hlt1
  go_loopw [19] (fun x V=>∃ k:Nat,k≤n∧x=.int .i64 (k:Int)∧IJ w0 V b5 b2 br M (v && (c.regs.take k).all fun l=>imB M (l,(j:Int)))∧At V W.heap.size (Fv.o ⟨4,m,(j:Int),0,some ⟨g,off,none⟩,1,cap⟩)∧V.ownsRow W1.heap.size 3 1 (.slice ra n rc) n (iCells c.regs)∧But b5 W V) (fun x _=>n - (intOf x).toNat)
  case atStart=>exact ⟨0,Nat.zero_le _,rfl,by simpa using HJ2.out,HA2.out,HW.out,HT2.out⟩
  case round =>
   clear HJ2 HA2 HW HT2
   obtain ⟨k,hk,rfl,hJ,hA,hW,hT⟩:=hrel
   have HJ:=jH hJ
   have HA:=jH hA
   have HW:=jH hW
   have HT:=jH hT
   clear hJ hA hW hT
   obtain ⟨-,q0,q1,q2,q3,q4⟩:=At.ty (f:=⟨4,m,(j:Int),0,some ⟨g,off,none⟩,1,cap⟩) HA.out
   simp only [Nat.zero_add] at q0 q1 q2 q3 q4
   have hltA:=HA.out.lt
   by_cases hlt:k<n
   ·obtain ⟨q,hq⟩:∃ q,c.regs[k]?=some q:=⟨_,List.getElem?_eq_getElem (by have:=HN.out;omega)⟩
    obtain ⟨hq0,hq1⟩:=HQC.out q (List.mem_of_getElem? hq)
    obtain ⟨i,rfl⟩:∃ i:Nat,q=(i:Int):=⟨q.toNat,by omega⟩
    obtain ⟨gr,rc',e0⟩:=own_is HW.out (by omega)
    have e1:ra=some ⟨gr,0,none⟩:=by cases e0;rfl
    subst e1
    obtain ⟨cq,hgr⟩:=own_cell HW.out (j:=k) (u:=.int .i64 (i:Int)) (by rw [iCells,List.getElem?_map,hq];rfl)
    have C:=jH (implied1_any HJ.out i j (by omega) HJ8.out _ rfl)
    have HNX:=jH (all_take_next (p:=fun l=>imB M (l,(j:Int))) hq)
    have k0:(0:Int)≤(k:Int):=by omega
    have k1:(k:Int)<(n:Int):=by omega
    have HK:=jH hlt
    clear hlt hk hq e0 hq0 hq1
    go_wp2_with (go_at_call 209;refine C.out.mono ?_;rintro e w3 ⟨rfl,hj3,hb3⟩;have HJ3:=jH hj3;have HA3:=jH (HA.out.grown hb3 (by have:=HB5.out;simp;omega));have HW3:=jH (own_grow HW.out hb3 (fun g hg e=>by have:=own_lo HW.out g hg;have:=HLO.out;cases e;omega));have HT3:=jH (HT.out.trans hb3);clear hj3 hb3)
    refine ⟨⟨k+1,HK.out,rfl,?_,HA3.out,HW3.out,HT3.out⟩,?_⟩
    ·rw [HNX.out,← Bool.and_assoc]
     exact HJ3.out
    ·show n - ((k:Int)+1).toNat<n - (k:Int).toNat
     have:=HK.out
     omega
   ·obtain rfl:k=n:=by omega
    have lt:¬ (k:Int)<(k:Int):=by omega
    have eN:(c.regs.take k).all (fun l=>imB M (l,(j:Int)))=c.regs.all fun l=>imB M (l,(j:Int)):=by rw [HN.out,List.take_length]
    rw [eN] at HJ
    have C:=jH (IH.out wr _ HJ.out)
    obtain ⟨hg,p0,p1,p2,p3,p4⟩:=PC.out wr HJ.out.bel
    clear hlt hk eN
    go_wp2_with (go_at_call 208;refine C.out.mono ?_;rintro e w3 ⟨rfl,hj3,hb3⟩;have HJ3:=jH hj3;have HT3:=jH (HT.out.trans hb3);clear hj3 hb3)
    go_end0
    refine ⟨rfl,?_,HT3.out⟩
    rw [imC_ref,← Bool.and_assoc]
    exact HJ3.out
theorem hasImplied_any (w:World) (br:Nat) (M:Nat→Nat→Bool) (hM:Rel w br M) (la:Option Addr) (n lc:Nat) (cl:List Ch) (hL:LcAt w la n lc (cl.map Ch.ty)) (hn:n≤512) (hok:∀ c∈cl,Ok c) (hq:∀ c∈cl,∀ q∈c.regs,0≤q∧q<8) (r:Bool) (hr:r=cl.all (imC M)) :
  Calls Tryz.prog 187 #[.pointer (some ⟨br,0,none⟩),.slice la n lc] w fun e w'=>e=.returned (.bool r)∧Below w.heap.size w w':=by
 have hlen:n=cl.length:=by have:=hL.len;rw [List.length_map] at this;exact this
 have HLN:=jH hlen
 have HL:=jH hL
 have HOK:=jH hok
 have HQ:=jH hq
 have HR:=jH hr
 have n0:(n:Int)≤512:=by omega
 have H0:Hid (IJ w ((w.alloc (One (.pointer (some ⟨br,0,none⟩)) 279)).alloc (One (.bool true) 4)) (w.heap.size+1) w.heap.size br M true):=jH ⟨at_snd _ _ _,(At.new _ _).alloc _,hM.bel (belA (belA bR)),belA (belA bR),by omega,by have:=hM.1;omega,by omega⟩
 clear hM hL hok hq hr hlen hn
 go_enter Tryz.func187,Tryz.ntmps187
 go_wp2_with fail
 go_loopw [10] (fun x V=>∃ k:Nat,k≤n∧x=.int .i64 (k:Int)∧IJ w V (w.heap.size+1) w.heap.size br M ((cl.take k).all (imC M))) (fun x _=>n - (intOf x).toNat)
 case atStart=>exact ⟨0,Nat.zero_le _,rfl,H0.out⟩
 case round =>
  clear H0
  obtain ⟨k,hk,rfl,hJ⟩:=hrel
  have HJ:=jH hJ
  clear hJ
  by_cases hlt:k<n
  ·obtain ⟨c,hc⟩:∃ c,cl[k]?=some c:=⟨_,List.getElem?_eq_getElem (by have:=HLN.out;omega)⟩
   have hty:(cl.map Ch.ty)[k]?=some c.ty:=by rw [List.getElem?_map,hc];rfl
   obtain ⟨g,off,f,ea,hc5,hT⟩:=HL.out.one hty
   have ea2:la=some ⟨g,off,none⟩:=ea
   subst ea2
   obtain ⟨hg,p0,p1,p2,p3,p4⟩:=hc5.below HJ.out.bel
   have hm:=List.mem_of_getElem? hc
   have C:=jH (imply_any c f (wr.alloc f.o) _ (HOK.out c hm) (HQ.out c hm) hT (HJ.out.aft (belA bR)))
   have HNX:=jH (all_take_next (p:=imC M) hc)
   obtain ⟨kk,mm,rr,ss,aa,nn',cc⟩:=f
   have k0:(0:Int)≤(k:Int):=by omega
   have k1:(k:Int)<(n:Int):=by omega
   have HK:=jH hlt
   clear hlt hk hc hty ea hT hc5 hm
   go_wp2_with (go_at_call 208;refine C.out.mono ?_;rintro e w3 ⟨rfl,hj3,hb3⟩;have HJ3:=jH hj3;clear hj3 hb3)
   refine ⟨⟨k+1,HK.out,rfl,?_⟩,?_⟩
   ·rw [HNX.out]
    exact HJ3.out
   ·show n - ((k:Int)+1).toNat<n - (k:Int).toNat
    have:=HK.out
    omega
  ·obtain rfl:k=n:=by omega
   have lt:¬ (k:Int)<(k:Int):=by omega
   have hre:(cl.take k).all (imC M)=r:=by rw [HLN.out,List.take_length,HR.out]
   rw [hre] at HJ
   obtain ⟨c5,f5⟩:=HJ.out.al.one
   clear hlt hk hre
   go_wp2_with fail
   go_ret
   exact ⟨rfl,HJ.out.bel⟩
structure OuAt (w:World) (oa:Option Addr) (on oc:Nat) (ou:List (Int × Int)):Prop where
 len:on=ou.length
 big:on≤1100000
 at_:∀ (i:Nat) (o:Int × Int),ou[i]?=some o→∃ g off,oa=some ⟨g,off,none⟩∧g<w.heap.size∧w.cell? ⟨g,off+i*2,none⟩=some (.int .i64 o.1)∧w.cell? ⟨g,off+i*2+1,none⟩=some (.int .i64 o.2)
theorem OuAt.bel {w w':World} {oa:Option Addr} {on oc:Nat} {ou:List (Int × Int)} (h:OuAt w oa on oc ou) (hb:Below w.heap.size w w'):OuAt w' oa on oc ou :=
 ⟨h.len,h.big,fun i o hi=>by
  obtain ⟨g,off,e,hg,h1,h2⟩:=h.at_ i o hi
  exact ⟨g,off,e,Nat.lt_of_lt_of_le hg hb.size,(cells_bel hg hb _).trans h1,(cells_bel hg hb _).trans h2⟩⟩
def oS (lv:Int) (a o:Int × Int):Bool:=decide (0≤o.1) && decide (o.1<lv) && (decide (0≤o.2) && decide (o.2<lv)) && !decide (o.1=o.2) && (decide (a.1<o.1) || decide (a.1=o.1) && decide (a.2<o.2))
def chkB (lv:Int):Int × Int→List (Int × Int)→Bool
 | _,[]=>true
 | a,o::l=>oS lv a o && chkB lv o l
theorem chk_out (lv:Int):∀ (l:List (Int × Int)) (a:Int × Int),chkB lv a l=(l.all (fun o=>decide (0≤o.1) && decide (o.1<lv) && (decide (0≤o.2) && decide (o.2<lv)) && !decide (o.1=o.2)) && riseB a l)
 | [],a=>rfl
 | o::l,a=>by
  have ih:=chk_out lv l o
  simp only [chkB,ih,oS,List.all_cons,riseB]
  cases (decide (0≤o.1) && decide (o.1<lv) && (decide (0≤o.2) && decide (o.2<lv)) && !decide (o.1=o.2)) <;> cases (decide (a.1<o.1) || decide (a.1=o.1) && decide (a.2<o.2)) <;> cases riseB o l <;> simp
def prevO (a:Int × Int) (ou:List (Int × Int)):Nat→Int × Int
 | 0=>a
 | k+1=>(ou[k]?).getD a
theorem chk_iff (lv:Int):∀ (l:List (Int × Int)) (a:Int × Int),chkB lv a l=true↔∀ (k:Nat) (o:Int × Int),l[k]?=some o→oS lv (prevO a l k) o=true
 | [],a=>by simp [chkB]
 | o::l,a=>by
  rw [chkB,Bool.and_eq_true,chk_iff lv l o]
  constructor
  ·rintro ⟨h1,h2⟩ k o' hk
   cases k with
   | zero=>simp at hk;subst hk;exact h1
   | succ k =>
    have hk':l[k]?=some o':=by simpa using hk
    have:=h2 k o' hk'
    cases k with
    | zero=>exact this
    | succ k =>
     have hl:k<l.length:=by have:=(List.getElem?_eq_some_iff.1 hk').1;omega
     show oS lv (((o::l)[k+1]?).getD a) o'=true
     have e:((o::l)[k+1]?).getD a=(l[k]?).getD o:=by simp [List.getElem?_eq_getElem hl]
     rw [e]
     exact this
  ·intro h
   refine ⟨h 0 o rfl,fun k o' hk=>?_⟩
   have:=h (k+1) o' (by simpa using hk)
   cases k with
   | zero=>exact this
   | succ k =>
    have hl:k<l.length:=by have:=(List.getElem?_eq_some_iff.1 hk).1;omega
    have e:((o::l)[k+1]?).getD a=(l[k]?).getD o:=by simp [List.getElem?_eq_getElem hl]
    have this2:oS lv (((o::l)[k+1]?).getD a) o'=true:=this
    rw [e] at this2
    exact this2
def mO (l:List (Int × Int)) (a b:Nat):Bool:=decide (((a:Int),(b:Int))∈l)
theorem zeros64:#[.bool false,.bool false,.bool false,.bool false,.bool false,.bool false,.bool false,.bool false,.bool false,.bool false,.bool false,.bool false,.bool false,.bool false,.bool false,.bool false,.bool false,.bool false,.bool false,.bool false,.bool false,.bool false,.bool false,.bool false,.bool false,.bool false,.bool false,.bool false,.bool false,.bool false,.bool false,.bool false,.bool false,.bool false,.bool false,.bool false,.bool false,.bool false,.bool false,.bool false,.bool false,.bool false,.bool false,.bool false,.bool false,.bool false,.bool false,.bool false,.bool false,.bool false,.bool false,.bool false,.bool false,.bool false,.bool false,.bool false,.bool false,.bool false,.bool false,.bool false,.bool false,.bool false,.bool false,.bool false]=Array.replicate 64 (Value.bool false):=by rfl
structure Mx8 (w:World) (b:Nat) (M:Nat→Nat→Bool):Prop where
 blk:∃ C:Array Value,At w b (.cells C 255 (0,0))∧C.size=64
 rel:Rel w b M
theorem Mx8.new (w:World):Mx8 (w.alloc (.cells #[.bool false,.bool false,.bool false,.bool false,.bool false,.bool false,.bool false,.bool false,.bool false,.bool false,.bool false,.bool false,.bool false,.bool false,.bool false,.bool false,.bool false,.bool false,.bool false,.bool false,.bool false,.bool false,.bool false,.bool false,.bool false,.bool false,.bool false,.bool false,.bool false,.bool false,.bool false,.bool false,.bool false,.bool false,.bool false,.bool false,.bool false,.bool false,.bool false,.bool false,.bool false,.bool false,.bool false,.bool false,.bool false,.bool false,.bool false,.bool false,.bool false,.bool false,.bool false,.bool false,.bool false,.bool false,.bool false,.bool false,.bool false,.bool false,.bool false,.bool false,.bool false,.bool false,.bool false,.bool false] 255 (0,0))) w.heap.size (mO []):=by
 have hA:=At.new w (.cells (Array.replicate 64 (Value.bool false)) 255 (0,0))
 rw [zeros64]
 refine ⟨⟨_,hA,by simp⟩,hA.lt,fun i j hi hj=>?_⟩
 unfold At at hA
 rw [cell_of_row _ _ _ _ _ _ hA]
 rw [Array.getElem?_replicate,if_pos (by omega)]
 simp [mO]
theorem Mx8.bel {w w':World} {b:Nat} {M:Nat→Nat→Bool} (h:Mx8 w b M) (hb:Below w.heap.size w w'):Mx8 w' b M:=by
 obtain ⟨C,hA,hs⟩:=h.blk
 exact ⟨⟨C,hA.below hb,hs⟩,h.rel.bel hb⟩
theorem Mx8.but {w w':World} {b c:Nat} {M:Nat→Nat→Bool} (h:Mx8 w b M) (hb:But c w w') (hn:b≠c):Mx8 w' b M:=by
 obtain ⟨C,hA,hs⟩:=h.blk
 exact ⟨⟨C,hA.grown hb (by simp;exact hn),hs⟩,h.rel.but hb hn⟩
theorem Mx8.cell {w:World} {b:Nat} {M:Nat→Nat→Bool} (h:Mx8 w b M) {i j:Nat} (hi:i<8) (hj:j<8):w.cell? ⟨b,i*8+j,none⟩=some (.bool (M i j))∧w.frozen? ⟨b,i*8+j,none⟩=false:=by
 obtain ⟨C,hA,hs⟩:=h.blk
 exact ⟨h.rel.2 i j hi hj,frozen_of_row _ _ _ _ _ hA⟩
theorem Mx8.set {w:World} {b:Nat} {l:List (Int × Int)} (h:Mx8 w b (mO l)) {i j:Nat} (hi:i<8) (hj:j<8):Mx8 (w.setCell ⟨b,i*8+j,none⟩ (.bool true)) b (mO (l++[((i:Int),(j:Int))])):=by
 obtain ⟨C,hA,hs⟩:=h.blk
 have h1:At (w.setCell ⟨b,i*8+j,none⟩ (.bool true)) b (.cells (C.setIfInBounds (i*8+j) (.bool true)) 255 (0,0)):=heap_setCell_same w b (i*8+j) C 255 (.bool true) hA
 refine ⟨⟨_,h1,by rw [Array.size_setIfInBounds,hs]⟩,h1.lt,fun x y hx hy=>?_⟩
 have h2:=h.rel.2 x y hx hy
 unfold At at h1 hA
 rw [cell_of_row _ _ _ _ _ _ hA] at h2
 rw [cell_of_row _ _ _ _ _ _ h1]
 by_cases e:x=i∧y=j
 ·obtain ⟨rfl,rfl⟩:=e
  rw [show mO (l++[((x:Int),(y:Int))]) x y=true by simp [mO]]
  simp only [Array.getElem?_setIfInBounds_self]
  rw [if_pos (by omega)]
 ·rw [Array.getElem?_setIfInBounds_ne (by omega),h2]
  congr 2
  unfold mO
  rw [Bool.eq_iff_iff]
  simp only [decide_eq_true_iff,List.mem_append,List.mem_singleton,Prod.mk.injEq]
  constructor
  ·exact .inl
  ·rintro (h|h)
   ·exact h
   ·exact absurd ⟨by omega,by omega⟩ e
structure OU (w V:World) (nm:ByteArray) (lv:Int) (oa:Option Addr) (on oc:Nat) (pa:Int) (la:Option Addr) (ln lc:Nat) (na:Option Addr) (nn nc:Nat) (qa:Option Addr) (qn qc:Nat) (sa:Option Addr) (sn sc:Nat) (im:Bool) (M:Nat→Nat→Bool) (l:Int × Int):Prop where
 hd:At V w.heap.size (hO nm lv oa on oc pa la ln lc na nn nc qa qn qc sa sn sc im)
 mx:Mx8 V (w.heap.size+1) M
 la:At V (w.heap.size+2) (.cells #[.int .i64 l.1,.int .i64 l.2] 136 (0,0))
 bel:Below w.heap.size w V
theorem OU.aft {w V V':World} {nm:ByteArray} {lv:Int} {oa:Option Addr} {on oc:Nat} {pa:Int} {la:Option Addr} {ln lc:Nat} {na:Option Addr} {nn nc:Nat} {qa:Option Addr} {qn qc:Nat} {sa:Option Addr} {sn sc:Nat} {im:Bool} {M:Nat→Nat→Bool} {l:Int × Int} (h:OU w V nm lv oa on oc pa la ln lc na nn nc qa qn qc sa sn sc im M l) (hb:Below V.heap.size V V'):OU w V' nm lv oa on oc pa la ln lc na nn nc qa qn qc sa sn sc im M l:=⟨h.hd.below hb,h.mx.bel hb,h.la.below hb,jB h.bel hb⟩
theorem OU.start (w:World) (nm:ByteArray) (lv:Int) (oa:Option Addr) (on oc:Nat) (pa:Int) (la:Option Addr) (ln lc:Nat) (na:Option Addr) (nn nc:Nat) (qa:Option Addr) (qn qc:Nat) (sa:Option Addr) (sn sc:Nat) (im:Bool):OU w (((w.alloc (hO nm lv oa on oc pa la ln lc na nn nc qa qn qc sa sn sc im)).alloc (.cells #[.bool false,.bool false,.bool false,.bool false,.bool false,.bool false,.bool false,.bool false,.bool false,.bool false,.bool false,.bool false,.bool false,.bool false,.bool false,.bool false,.bool false,.bool false,.bool false,.bool false,.bool false,.bool false,.bool false,.bool false,.bool false,.bool false,.bool false,.bool false,.bool false,.bool false,.bool false,.bool false,.bool false,.bool false,.bool false,.bool false,.bool false,.bool false,.bool false,.bool false,.bool false,.bool false,.bool false,.bool false,.bool false,.bool false,.bool false,.bool false,.bool false,.bool false,.bool false,.bool false,.bool false,.bool false,.bool false,.bool false,.bool false,.bool false,.bool false,.bool false,.bool false,.bool false,.bool false,.bool false] 255 (0,0))).alloc (.cells #[.int .i64 (-1),.int .i64 0] 136 (0,0))) nm lv oa on oc pa la ln lc na nn nc qa qn qc sa sn sc im (mO []) (-1,0):=by
 refine ⟨((At.new _ _).alloc _).alloc _,?_,?_,belA (belA (belA bR))⟩
 ·have:=(Mx8.new (w.alloc (hO nm lv oa on oc pa la ln lc na nn nc qa qn qc sa sn sc im))).bel (belA bR:Below _ _ (((w.alloc (hO nm lv oa on oc pa la ln lc na nn nc qa qn qc sa sn sc im)).alloc (.cells #[.bool false,.bool false,.bool false,.bool false,.bool false,.bool false,.bool false,.bool false,.bool false,.bool false,.bool false,.bool false,.bool false,.bool false,.bool false,.bool false,.bool false,.bool false,.bool false,.bool false,.bool false,.bool false,.bool false,.bool false,.bool false,.bool false,.bool false,.bool false,.bool false,.bool false,.bool false,.bool false,.bool false,.bool false,.bool false,.bool false,.bool false,.bool false,.bool false,.bool false,.bool false,.bool false,.bool false,.bool false,.bool false,.bool false,.bool false,.bool false,.bool false,.bool false,.bool false,.bool false,.bool false,.bool false,.bool false,.bool false,.bool false,.bool false,.bool false,.bool false,.bool false,.bool false,.bool false,.bool false] 255 (0,0))).alloc (.cells #[.int .i64 (-1),.int .i64 0] 136 (0,0))))
  simpa only [World.size_alloc] using this
 ·have:=At.new ((w.alloc (hO nm lv oa on oc pa la ln lc na nn nc qa qn qc sa sn sc im)).alloc (.cells #[.bool false,.bool false,.bool false,.bool false,.bool false,.bool false,.bool false,.bool false,.bool false,.bool false,.bool false,.bool false,.bool false,.bool false,.bool false,.bool false,.bool false,.bool false,.bool false,.bool false,.bool false,.bool false,.bool false,.bool false,.bool false,.bool false,.bool false,.bool false,.bool false,.bool false,.bool false,.bool false,.bool false,.bool false,.bool false,.bool false,.bool false,.bool false,.bool false,.bool false,.bool false,.bool false,.bool false,.bool false,.bool false,.bool false,.bool false,.bool false,.bool false,.bool false,.bool false,.bool false,.bool false,.bool false,.bool false,.bool false,.bool false,.bool false,.bool false,.bool false,.bool false,.bool false,.bool false,.bool false] 255 (0,0))) (.cells #[.int .i64 (-1),.int .i64 0] 136 (0,0))
  simpa only [World.size_alloc] using this
theorem OU.last {w V:World} {nm:ByteArray} {lv:Int} {oa:Option Addr} {on oc:Nat} {pa:Int} {la:Option Addr} {ln lc:Nat} {na:Option Addr} {nn nc:Nat} {qa:Option Addr} {qn qc:Nat} {sa:Option Addr} {sn sc:Nat} {im:Bool} {M:Nat→Nat→Bool} {l:Int × Int} (h:OU w V nm lv oa on oc pa la ln lc na nn nc qa qn qc sa sn sc im M l) (p q:Int):OU w ((V.setCell ⟨w.heap.size+2,0,none⟩ (.int .i64 p)).setCell ⟨w.heap.size+2,1,none⟩ (.int .i64 q)) nm lv oa on oc pa la ln lc na nn nc qa qn qc sa sn sc im M (p,q):=by
 have hb:But (w.heap.size+2) V ((V.setCell ⟨w.heap.size+2,0,none⟩ (.int .i64 p)).setCell ⟨w.heap.size+2,1,none⟩ (.int .i64 q)):=((But.refl _ _).set _ _).set _ _
 exact ⟨h.hd.grown hb (by simp),h.mx.but hb (by omega),heap_setCell_same _ _ 1 _ 136 (.int .i64 q) (heap_setCell_same _ _ 0 _ 136 (.int .i64 p) h.la),belBut h.bel hb (by omega) h.bel.size⟩
theorem at_pair {w:World} {b:Nat} {x y:Int} (h:At w b (.cells #[.int .i64 x,.int .i64 y] 136 (0,0))):w.cell? ⟨b,0,none⟩=some (.int .i64 x)∧w.cell? ⟨b,1,none⟩=some (.int .i64 y)∧w.frozen? ⟨b,0,none⟩=false∧w.frozen? ⟨b,1,none⟩=false:=by
 have hf:=fun o=>frozen_of_row w b o _ 136 h
 unfold At at h
 exact ⟨by simp [World.cell?,h],by simp [World.cell?,h],hf 0,hf 1⟩
theorem impl_regs:∀ (c:Ch) (o:Int × Int),o∈implC c→o.1∈c.regs∧o.2∈c.regs
 | .leaf _ _,o,h=>by simp [implC] at h
 | .box c,o,h=>impl_regs c o h
 | .ref m r c,o,h=>by
  simp only [implC,List.mem_append,List.mem_map] at h
  rcases h with ⟨l,hl,rfl⟩|h
  ·exact ⟨by simp [Ch.regs,hl],by simp [Ch.regs]⟩
  ·have:=impl_regs c o h
   exact ⟨by simp [Ch.regs,this.1],by simp [Ch.regs,this.2]⟩
theorem imC_out {ou:List (Int × Int)} {c:Ch} (hq:∀ q∈c.regs,0≤q∧q<8):imC (mO ou) c=(implC c).all fun o=>decide (o.1=o.2) || decide (o∈ou):=by
 unfold imC
 rw [Bool.eq_iff_iff,List.all_eq_true,List.all_eq_true]
 refine forall_congr' fun o=>⟨fun h ho=>?_,fun h ho=>?_⟩
 all_goals
  have h1:=h ho
  obtain ⟨ha,hb⟩:=impl_regs c o ho
  have e:mO ou o.1.toNat o.2.toNat=decide (o∈ou):=by
   unfold mO
   rw [Int.toNat_of_nonneg (hq _ ha).1,Int.toNat_of_nonneg (hq _ hb).1]
  have key:imB (mO ou) o=(decide (o.1=o.2) || decide (o∈ou)):=by unfold imB;rw [e]
  first
   | (rw [key] at h1;exact h1)
   | (rw [key];exact h1)
theorem closed_out (ou:List (Int × Int)):(∀ x y z,x<8→y<8→z<8→clP (mO ou) x y z)↔((List.range 8).all (fun a=>(List.range 8).all fun b=>(List.range 8).all fun c=>!(decide (((a:Int),(b:Int))∈ou) && decide (((b:Int),(c:Int))∈ou) && !decide (a=c)) || decide (((a:Int),(c:Int))∈ou)))=true:=by
 simp only [List.all_eq_true,List.mem_range]
 constructor
 ·intro h a ha b hb c hc
  have:=h a b c ha hb hc
  unfold clP mO at this
  simp only [decide_eq_true_iff] at this
  by_cases h1:((a:Int),(b:Int))∈ou <;> by_cases h2:((b:Int),(c:Int))∈ou <;> by_cases h3:a=c <;> simp [h1,h2,h3]
  exact this h1 h2 h3
 ·intro h x y z hx hy hz h1 h2 h3
  have:=h x hx y hy z hz
  unfold mO at *
  rw [decide_eq_true_iff] at *
  simpa [h1,h2,h3] using this
theorem outlives_any (nm:ByteArray) (lv:Int) (oa:Option Addr) (on oc:Nat) (pa:Int) (la:Option Addr) (ln lc:Nat) (na:Option Addr) (nn nc:Nat) (qa:Option Addr) (qn qc:Nat) (sa:Option Addr) (sn sc:Nat) (im:Bool) (w:World) (ou:List (Int × Int)) (hO:OuAt w oa on oc ou) (cl:List Ch) (hL:LcAt w la ln lc (cl.map Ch.ty)) (hok:∀ c∈cl,Ok c) (hlv:lv≤8) (hpa:0≤pa∧pa≤8∧pa<(ln:Int)) (hl1:ln≤512) (hlc:ln≤lc) (hq:∀ (n:Nat) (c:Ch),cl[n]?=some c→∀ q∈c.regs,regP lv pa n q) (r:Bool) (hr:r=outlB lv ou (cl.take (pa.toNat+1))) :
  Calls Tryz.prog 170 #[hV nm lv oa on oc pa la ln lc na nn nc qa qn qc sa sn sc im] w fun e w'=>e=.returned (.bool r)∧Below w.heap.size w w':=by
 have HST:=jH (OU.start w nm lv oa on oc pa la ln lc na nn nc qa qn qc sa sn sc im)
 have HOU:=jH hO
 have HR:=jH hr
 have n0:(on:Int)≤1100000:=by have:=hO.big;omega
 obtain ⟨k,rfl⟩:∃ k:Nat,pa=(k:Int):=⟨pa.toNat,by omega⟩
 have hlen:ln=cl.length:=by have:=hL.len;rw [List.length_map] at this;exact this
 have HCI:Hid (∀ (W:World) (M:Nat→Nat→Bool),Below w.heap.size w W→Rel W (w.heap.size+1) M→Calls Tryz.prog 187 #[.pointer (some ⟨w.heap.size+1,0,none⟩),.slice la (k+1) lc] W fun e w'=>e=.returned (.bool ((cl.take (k+1)).all (imC M)))∧Below W.heap.size W w'):=fun W M hW hM =>
  hasImplied_any W _ M hM la (k+1) lc (cl.take (k+1)) (by
   refine ⟨by rw [List.length_map,List.length_take];omega,by unfold maxLen;omega,fun hne=>?_⟩
   obtain ⟨g,off,e,hc⟩:=(hL.bel hW).cells (fun e=>by simp at e;subst e;simp at hlen;omega)
   refine ⟨g,off,e,fun i t hi=>hc i t ?_⟩
   rw [List.getElem?_map] at hi ⊢
   rw [List.getElem?_take] at hi
   split at hi
   ·exact hi
   ·cases hi) (by omega) (fun c hc=>hok c (List.mem_of_mem_take hc)) (fun c hc q hqq=>by
   obtain ⟨i,hi⟩:=List.getElem?_of_mem hc
   rw [List.getElem?_take] at hi
   split at hi
   ·have:=hq i c hi q hqq
    unfold regP at this
    omega
   ·cases hi) _ rfl
 have HQ8:Hid (∀ c∈cl.take (k+1),∀ q∈c.regs,0≤q∧q<8):=jH (fun c hc q hqq=>by
   obtain ⟨i,hi⟩:=List.getElem?_of_mem hc
   rw [List.getElem?_take] at hi
   split at hi
   ·have:=hq i c hi q hqq
    unfold regP at this
    omega
   ·cases hi)
 obtain ⟨g2,off2,hla⟩:∃ g2 off2,la=some ⟨g2,off2,none⟩:=by
  obtain ⟨g,off,e,-⟩:=hL.cells (fun e=>by simp at e;subst e;simp at hlen;omega)
  exact ⟨g,off,e⟩
 subst hla
 have HLV:Hid (lv≤8):=hlv
 have p0:(k:Int)≤8:=by omega
 have p1:(k:Int)+1≤(lc:Int):=by omega
 have p2:(0:Int)≤(k:Int):=by omega
 have pw:IntKind.i64.wrap ((k:Int)+1)=(k:Int)+1:=by rw [IntKind.wrap_i64] <;> omega
 clear hO hr hL hok hlv hpa hl1 hlc hq hlen
 go_enter Tryz.func170,Tryz.ntmps170
 go_upto_region 3 with fail
 generalize (((w.alloc (hO nm lv oa on oc (k:Int) (some ⟨g2,off2,none⟩) ln lc na nn nc qa qn qc sa sn sc im)).alloc (.cells #[.bool false,.bool false,.bool false,.bool false,.bool false,.bool false,.bool false,.bool false,.bool false,.bool false,.bool false,.bool false,.bool false,.bool false,.bool false,.bool false,.bool false,.bool false,.bool false,.bool false,.bool false,.bool false,.bool false,.bool false,.bool false,.bool false,.bool false,.bool false,.bool false,.bool false,.bool false,.bool false,.bool false,.bool false,.bool false,.bool false,.bool false,.bool false,.bool false,.bool false,.bool false,.bool false,.bool false,.bool false,.bool false,.bool false,.bool false,.bool false,.bool false,.bool false,.bool false,.bool false,.bool false,.bool false,.bool false,.bool false,.bool false,.bool false,.bool false,.bool false,.bool false,.bool false,.bool false,.bool false] 255 (0,0))).alloc (.cells #[.int .i64 (-1),.int .i64 0] 136 (0,0)))=V0 at *
 obtain ⟨d0,d1,d2,d3,d4,d5,d6,d7,d8⟩:=HST.out.hd.hd
 go_wp2_with fail
 clear d0 d1 d2 d3 d4 d5 d6 d7 d8
 go_loopw [12] (fun v V=>∃ i:Nat,i≤on∧v=.int .i64 (i:Int)∧(∀ (j:Nat) (o:Int × Int),j<i→ou[j]?=some o→oS lv (prevO (-1,0) ou j) o=true)∧OU w V nm lv oa on oc (k:Int) (some ⟨g2,off2,none⟩) ln lc na nn nc qa qn qc sa sn sc im (mO (ou.take i)) (prevO (-1,0) ou i)) (fun v _=>on - (intOf v).toNat)
 case atStart=>exact ⟨0,Nat.zero_le _,rfl,fun j o h=>by omega,HST.out⟩
 case round =>
  clear HST
  obtain ⟨i,hi,rfl,h1,hS⟩:=hrel
  have HI1:=jH h1
  have HS:=jH hS
  clear h1 hS
  by_cases hlt:i<on
  ·obtain ⟨o,ho⟩:∃ o,ou[i]?=some o:=⟨_,List.getElem?_eq_getElem (by rw [← HOU.out.len];exact hlt)⟩
   obtain ⟨g,off,ea,hg,c0,c1⟩:=(HOU.out.bel HS.out.bel).at_ i o ho
   have ea2:oa=some ⟨g,off,none⟩:=ea
   subst ea2
   obtain ⟨pv,hpv⟩:∃ pv,pv=prevO (-1,0) ou i:=⟨_,rfl⟩
   rw [← hpv] at HS
   have HPV:Hid (prevO (-1,0) ou i=pv):=hpv.symm
   have HOI:=jH ho
   obtain ⟨o1,o2⟩:=o
   obtain ⟨e1,e2⟩:=pv
   have HS0:Hid (OU w (wr.alloc (.cells #[.int .i64 o1,.int .i64 o2] 136 (0,0))) nm lv (some ⟨g,off,none⟩) on oc (k:Int) (some ⟨g2,off2,none⟩) ln lc na nn nc qa qn qc sa sn sc im (mO (ou.take i)) (e1,e2)):=jH (HS.out.aft (belA bR))
   have HO0:Hid (At (wr.alloc (.cells #[.int .i64 o1,.int .i64 o2] 136 (0,0))) wr.heap.size (.cells #[.int .i64 o1,.int .i64 o2] 136 (0,0))):=jH (At.new _ _)
   have HLB:Hid (w.heap.size+2<wr.heap.size):=jH HS.out.la.lt
   have i0:(0:Int)≤(i:Int):=by omega
   have i1:(i:Int)<(on:Int):=by omega
   have HLT:=jH hlt
   clear ho ea hlt hi hpv HS
   go_upto_region 6 with fail
   generalize wr.alloc (.cells #[.int .i64 o1,.int .i64 o2] 136 (0,0))=W6 at *
   obtain ⟨bo,hbo⟩:∃ bo,bo=wr.heap.size:=⟨_,rfl⟩
   rw [← hbo] at HO0 HLB ⊢
   clear c0 c1 hg hbo
   obtain ⟨a0,a1,a2,a3,a4,a5,a6,a7,a8⟩:=HS0.out.hd.hd
   obtain ⟨o0a,o0b,-,-⟩:=at_pair HO0.out
   obtain ⟨l0a,l0b,-,-⟩:=at_pair HS0.out.la
   simp only at l0a l0b
   obtain ⟨lf1,hlf1⟩:∃ x,x=(decide (0≤o1) && decide (o1<lv)):=⟨_,rfl⟩
   obtain ⟨lf2,hlf2⟩:∃ x,x=(decide (0≤o2) && decide (o2<lv)):=⟨_,rfl⟩
   obtain ⟨ri,hri⟩:∃ x,x=(decide (e1<o1) || decide (e1=o1) && decide (e2<o2)):=⟨_,rfl⟩
   have CL1:Hid (∀ W,Calls Tryz.prog 184 #[hV nm lv (some ⟨g,off,none⟩) on oc (k:Int) (some ⟨g2,off2,none⟩) ln lc na nn nc qa qn qc sa sn sc im,.int .i64 o1] W fun e w'=>e=.returned (.bool lf1)∧Below W.heap.size W w'):=fun W=>isLife_any nm lv (some ⟨g,off,none⟩) on oc (k:Int) (some ⟨g2,off2,none⟩) ln lc na nn nc qa qn qc sa sn sc im o1 W lf1 hlf1
   have CL2:Hid (∀ W,Calls Tryz.prog 184 #[hV nm lv (some ⟨g,off,none⟩) on oc (k:Int) (some ⟨g2,off2,none⟩) ln lc na nn nc qa qn qc sa sn sc im,.int .i64 o2] W fun e w'=>e=.returned (.bool lf2)∧Below W.heap.size W w'):=fun W=>isLife_any nm lv (some ⟨g,off,none⟩) on oc (k:Int) (some ⟨g2,off2,none⟩) ln lc na nn nc qa qn qc sa sn sc im o2 W lf2 hlf2
   have CRI:Hid (∀ W,Calls Tryz.prog 185 #[.agg #[.int .i64 e1,.int .i64 e2],.agg #[.int .i64 o1,.int .i64 o2]] W fun e w'=>e=.returned (.bool ri)∧Below W.heap.size W w'):=fun W=>rises_any e1 e2 o1 o2 W ri hri
   have HSO:Hid (oS lv (e1,e2) (o1,o2)=(lf1 && lf2 && !decide (o1=o2) && ri)):=jH (by unfold oS;rw [hlf1,hlf2,hri])
   have NO:Hid (oS lv (e1,e2) (o1,o2)=false→r=false):=jH (fun h=>by
    rw [HR.out];unfold outlB;rw [← chk_out]
    have:chkB lv (-1,0) ou=false:=by
     cases hh:chkB lv (-1,0) ou with
     | false=>rfl
     | true =>
      have h1:=(chk_iff lv ou (-1,0)).1 hh i (o1,o2) HOI.out
      rw [HPV.out,h] at h1
      cases h1
    rw [this];rfl)
   have HLF1:=jH hlf1
   have HLF2:=jH hlf2
   clear hlf1 hlf2 hri
   cases lf1 with
   | false =>
    have hno:r=false:=NO.out (by rw [HSO.out];rfl)
    go_wp2_with (first
     | (go_at_call 184;with_reducible refine (CL1.out _).mono ?_;rintro e v1 ⟨rfl,hb1⟩;have HS1:=jH (HS0.out.aft hb1);have HO1:=jH (HO0.out.below hb1);clear hb1;obtain ⟨d0,d1,d2,d3,d4,d5,d6,d7,d8⟩:=HS1.out.hd.hd;obtain ⟨o1a,o1b,-,-⟩:=at_pair HO1.out;obtain ⟨l1a,l1b,-,-⟩:=at_pair HS1.out.la))
    go_ret
    refine ⟨?_,HS1.out.bel⟩
    first|rfl|(rw [hno];rfl)
   | true =>
    cases lf2 with
    | false =>
     have hno:r=false:=NO.out (by rw [HSO.out];rfl)
     go_wp2_with (first
      | (go_at_call 184;with_reducible refine (CL1.out _).mono ?_;rintro e v1 ⟨rfl,hb1⟩;have HS1:=jH (HS0.out.aft hb1);have HO1:=jH (HO0.out.below hb1);clear hb1;obtain ⟨d0,d1,d2,d3,d4,d5,d6,d7,d8⟩:=HS1.out.hd.hd;obtain ⟨o1a,o1b,-,-⟩:=at_pair HO1.out;obtain ⟨l1a,l1b,-,-⟩:=at_pair HS1.out.la)
      | (go_at_call 184;with_reducible refine (CL2.out _).mono ?_;rintro e v2 ⟨rfl,hb2⟩;have HS2:=jH (HS1.out.aft hb2);have HO2:=jH (HO1.out.below hb2);clear hb2;obtain ⟨o2a,o2b,-,-⟩:=at_pair HO2.out;obtain ⟨l2a,l2b,-,-⟩:=at_pair HS2.out.la))
     go_ret
     refine ⟨?_,HS2.out.bel⟩
     first|rfl|(rw [hno];rfl)
    | true =>
     by_cases heq:o1=o2
     ·have q1:(o1 == o2)=true:=by simpa using heq
      have hno:r=false:=NO.out (by rw [HSO.out,decide_eq_true heq];rfl)
      clear heq
      go_wp2_with (first
       | (go_at_call 184;with_reducible refine (CL1.out _).mono ?_;rintro e v1 ⟨rfl,hb1⟩;have HS1:=jH (HS0.out.aft hb1);have HO1:=jH (HO0.out.below hb1);clear hb1;obtain ⟨d0,d1,d2,d3,d4,d5,d6,d7,d8⟩:=HS1.out.hd.hd;obtain ⟨o1a,o1b,-,-⟩:=at_pair HO1.out;obtain ⟨l1a,l1b,-,-⟩:=at_pair HS1.out.la)
       | (go_at_call 184;with_reducible refine (CL2.out _).mono ?_;rintro e v2 ⟨rfl,hb2⟩;have HS2:=jH (HS1.out.aft hb2);have HO2:=jH (HO1.out.below hb2);clear hb2;obtain ⟨o2a,o2b,-,-⟩:=at_pair HO2.out;obtain ⟨l2a,l2b,-,-⟩:=at_pair HS2.out.la))
      go_ret
      refine ⟨?_,HS2.out.bel⟩
      first|rfl|(rw [hno];rfl)
     ·have q1:(o1 == o2)=false:=by simpa using heq
      cases ri with
      | false =>
       have hno:r=false:=NO.out (by rw [HSO.out,Bool.and_false])
       go_wp2_with (first
        | (go_at_call 184;with_reducible refine (CL1.out _).mono ?_;rintro e v1 ⟨rfl,hb1⟩;have HS1:=jH (HS0.out.aft hb1);have HO1:=jH (HO0.out.below hb1);clear hb1;obtain ⟨d0,d1,d2,d3,d4,d5,d6,d7,d8⟩:=HS1.out.hd.hd;obtain ⟨o1a,o1b,-,-⟩:=at_pair HO1.out;obtain ⟨l1a,l1b,-,-⟩:=at_pair HS1.out.la)
        | (go_at_call 184;with_reducible refine (CL2.out _).mono ?_;rintro e v2 ⟨rfl,hb2⟩;have HS2:=jH (HS1.out.aft hb2);have HO2:=jH (HO1.out.below hb2);clear hb2;obtain ⟨o2a,o2b,-,-⟩:=at_pair HO2.out;obtain ⟨l2a,l2b,-,-⟩:=at_pair HS2.out.la)
        | (go_at_call 185;refine (CRI.out _).mono ?_;rintro e v3 ⟨rfl,hb3⟩;have HS3:=jH (HS2.out.aft hb3);have HO3:=jH (HO2.out.below hb3);clear hb3;obtain ⟨o3a,o3b,-,-⟩:=at_pair HO3.out;have hlo:=HO3.out.lt))
       go_ret
       refine ⟨?_,HS3.out.bel⟩
       first|rfl|(rw [hno];rfl)
      | true =>
       have HOK:Hid (oS lv (e1,e2) (o1,o2)=true):=jH (by rw [HSO.out,decide_eq_false heq];rfl)
       obtain ⟨x,hx⟩:∃ x:Nat,o1=(x:Int):=⟨o1.toNat,by have:=HLF1.out;simp at this;omega⟩
       obtain ⟨y,hy⟩:∃ y:Nat,o2=(y:Int):=⟨o2.toNat,by have:=HLF2.out;simp at this;omega⟩
       subst hx hy
       have HX:Hid (x<8):=jH (by have:=HLF1.out;have:=HLV.out;simp at *;omega)
       have HY:Hid (y<8):=jH (by have:=HLF2.out;have:=HLV.out;simp at *;omega)
       have x0:(0:Int)≤(x:Int):=by omega
       have x1:(x:Int)<8:=by have:=HX.out;omega
       have y0:(0:Int)≤(y:Int):=by omega
       have y1:(y:Int)<8:=by have:=HY.out;omega
       clear NO HSO HLF1 HLF2 heq
       go_upto_region 8 with (first
        | (go_at_call 184;with_reducible refine (CL1.out _).mono ?_;rintro e v1 ⟨rfl,hb1⟩;have HS1:=jH (HS0.out.aft hb1);have HO1:=jH (HO0.out.below hb1);clear hb1;obtain ⟨d0,d1,d2,d3,d4,d5,d6,d7,d8⟩:=HS1.out.hd.hd;obtain ⟨o1a,o1b,-,-⟩:=at_pair HO1.out;obtain ⟨l1a,l1b,-,-⟩:=at_pair HS1.out.la)
        | (go_at_call 184;with_reducible refine (CL2.out _).mono ?_;rintro e v2 ⟨rfl,hb2⟩;have HS2:=jH (HS1.out.aft hb2);have HO2:=jH (HO1.out.below hb2);clear hb2;obtain ⟨o2a,o2b,-,-⟩:=at_pair HO2.out;obtain ⟨l2a,l2b,-,-⟩:=at_pair HS2.out.la)
        | (go_at_call 185;refine (CRI.out _).mono ?_;rintro e v3 ⟨rfl,hb3⟩;have HS3:=jH (HS2.out.aft hb3);have HO3:=jH (HO2.out.below hb3);clear hb3;obtain ⟨o3a,o3b,-,-⟩:=at_pair HO3.out;have hlo:=HO3.out.lt))
       obtain ⟨mc,mf⟩:=HS3.out.mx.cell HX.out HY.out
       have hlm:=HS3.out.mx.rel.1
       clear CL1 CL2 CRI
       go_big_region
       all_goals
        have HM4:=jH (HS3.out.mx.set HX.out HY.out)
        have HBT:Hid (But (w.heap.size+1) v3 (v3.setCell ⟨w.heap.size+1,x*8+y,none⟩ (.bool true))):=jH ((But.refl _ _).set _ _)
        have HD4:=jH (HS3.out.hd.grown HBT.out (by simp))
        have HLA4:=jH (HS3.out.la.grown HBT.out (by simp))
        have HO4:=jH (HO3.out.grown HBT.out (by have:=HLB.out;simp;omega))
        have HBE4:=jH (belBut HS3.out.bel HBT.out (by omega) HS3.out.bel.size)
       all_goals
        have HS8:Hid (OU w ((v3.setCell ⟨w.heap.size+1,x*8+y,none⟩ (.bool true)).drew) nm lv (some ⟨g,off,none⟩) on oc (k:Int) (some ⟨g2,off2,none⟩) ln lc na nn nc qa qn qc sa sn sc im (mO (ou.take i++[((x:Int),(y:Int))])) (e1,e2)):=jH (OU.aft ⟨HD4.out,HM4.out,HLA4.out,HBE4.out⟩ (bR.drew))
        have HO8:Hid (At ((v3.setCell ⟨w.heap.size+1,x*8+y,none⟩ (.bool true)).drew) bo (.cells #[.int .i64 (x:Int),.int .i64 (y:Int)] 136 (0,0))):=jH HO4.out.drew
        generalize (v3.setCell ⟨w.heap.size+1,x * 8+y,none⟩ (.bool true)).drew=W8 at *
        clear mc mf hlm HM4 HBT HD4 HLA4 HO4 HBE4 HS3 HO3 HS2 HO2 HS1 HO1 HS0 HO0
        obtain ⟨z0,z1,-,-⟩:=at_pair HO8.out
        obtain ⟨y0a,y1a,y2a,y3a⟩:=at_pair HS8.out.la
        have hlz:=HO8.out.lt
        have hly:=HS8.out.la.lt
        have HF:=jH (HS8.out.last (x:Int) (y:Int))
        clear HS8 HO8
        go_wp2_with fail
        refine ⟨⟨i+1,HLT.out,rfl,fun j o hj ho=>?_,?_⟩,?_⟩
        ·rcases Nat.lt_or_ge j i with h1|h1
         ·exact HI1.out j o h1 ho
         ·obtain rfl:j=i:=by omega
          have:=HOI.out
          rw [ho] at this
          cases this
          rw [HPV.out]
          exact HOK.out
        ·rw [List.take_add_one,HOI.out]
         show OU w _ _ _ _ _ _ _ _ _ _ _ _ _ _ _ _ _ _ _ _ (mO (ou.take i++[((x:Int),(y:Int))])) ((ou[i]?).getD (-1,0))
         rw [HOI.out]
         exact HF.out
        ·show on - ((i:Int)+1).toNat<on - (i:Int).toNat
         have:=HLT.out
         omega
  ·obtain rfl:i=on:=by omega
   have lt:¬ (i:Int)<(i:Int):=by omega
   have eM:ou.take i=ou:=by rw [HOU.out.len,List.take_length]
   rw [eM] at HS
   obtain ⟨cb,hcb⟩:∃ cb,cb=((List.range 8).all (fun a=>(List.range 8).all fun b=>(List.range 8).all fun c=>!(decide (((a:Int),(b:Int))∈ou) && decide (((b:Int),(c:Int))∈ou) && !decide (a=c)) || decide (((a:Int),(c:Int))∈ou))):=⟨_,rfl⟩
   have CC:=jH (isClosed_any wr (w.heap.size+1) (mO ou) HS.out.mx.rel.2 cb (by rw [hcb];exact (closed_out ou).symm))
   have hr2:r=(cb && (cl.take (k+1)).all (imC (mO ou))):=by
    have e1:chkB lv (-1,0) ou=true:=(chk_iff lv ou (-1,0)).2 (fun j o ho=>HI1.out j o (by have:=(List.getElem?_eq_some_iff.1 ho).1;rw [HOU.out.len];exact this) ho)
    rw [HR.out]
    unfold outlB
    rw [← chk_out,e1,← hcb,Bool.true_and,Int.toNat_natCast]
    congr 1
    rw [Bool.eq_iff_iff,List.all_eq_true,List.all_eq_true]
    exact forall_congr' fun c=>forall_congr' fun hc=>by rw [imC_out (HQ8.out c hc)]
   have CI:=jH (HCI.out wr (mO ou) HS.out.bel HS.out.mx.rel)
   obtain ⟨d0,d1,d2,d3,d4,d5,d6,d7,d8⟩:=HS.out.hd.hd
   have tn:((k:Int)+1).toNat=k+1:=by omega
   obtain ⟨iv,hiv⟩:∃ iv,iv=(cl.take (k+1)).all (imC (mO ou)):=⟨_,rfl⟩
   rw [← hiv] at hr2 CI
   clear hlt hi eM hcb hiv HI1 HCI HQ8
   cases cb with
   | false =>
    have hr3:r=false:=hr2
    subst hr3
    clear hr2
    go_wp2_with (go_at_call 186;refine CC.out.mono ?_;rintro e w9 ⟨rfl,hw⟩;replace hw:=hw.symm;subst hw)
    go_ret
    exact ⟨rfl,HS.out.bel⟩
   | true =>
    have hr3:r=iv:=hr2
    clear hr2
    go_wp2_with (first
     | (go_at_call 186;refine CC.out.mono ?_;rintro e w9 ⟨rfl,hw⟩;replace hw:=hw.symm;subst hw)
     | (go_at_call 187;refine CI.out.mono ?_;rintro e w9 ⟨rfl,hb9⟩;have HB9:=jH (jB HS.out.bel hb9);clear hb9))
    go_ret
    refine ⟨?_,HB9.out⟩
    first|rfl|(rw [hr3];rfl)
end Go.Proofs.YtmjenlogbkbgnaaGreatDoor
