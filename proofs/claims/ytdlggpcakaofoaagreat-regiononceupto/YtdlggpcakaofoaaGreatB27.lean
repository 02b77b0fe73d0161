import Derived.Test.YtdlggpcakaofoaaGreatB16
namespace Go.Proofs.YtdlggpcakaofoaaGreat
open Go.RowKit Go.Shelf
set_option linter.unusedVariables false
set_option linter.unusedSimpArgs false
set_option maxRecDepth 100000
set_option maxHeartbeats 8000000
def Rel (w:World) (b:Nat) (M:Nat→Nat→Bool):Prop:=b<w.heap.size∧∀ i j,i<8→j<8→w.cell? ⟨b,i*8+j,none⟩=some (.bool (M i j))
theorem Rel.bel {w w':World} {b:Nat} {M:Nat→Nat→Bool} (h:Rel w b M) (hb:Below w.heap.size w w'):Rel w' b M :=
 ⟨Nat.lt_of_lt_of_le h.1 hb.size,fun i j hi hj=>(hb.cell (p:=⟨b,i*8+j,none⟩) h.1).trans (h.2 i j hi hj)⟩
theorem Rel.but {w w':World} {b c:Nat} {M:Nat→Nat→Bool} (h:Rel w b M) (hb:But c w w') (hn:b≠c):Rel w' b M:=by
 have hblk:w'.heap[b]?=w.heap[b]?:=hb.block b h.1 (by simp;omega)
 refine ⟨Nat.lt_of_lt_of_le h.1 hb.size,fun i j hi hj=>?_⟩
 have:=h.2 i j hi hj
 unfold World.cell? at this ⊢
 simp only [hblk]
 exact this
structure IJ (w0 W:World) (b5 b2 br:Nat) (M:Nat→Nat→Bool) (v:Bool):Prop where
 al:At W b5 (One (.bool v) 4)
 pt:At W b2 (One (.pointer (some ⟨br,0,none⟩)) 214)
 rel:Rel W br M
 bel:Below w0.heap.size w0 W
 ne2:b2≠b5
 ner:br≠b5
 lo:w0.heap.size≤b5
theorem IJ.aft {w0 W W':World} {b5 b2 br:Nat} {M:Nat→Nat→Bool} {v:Bool} (h:IJ w0 W b5 b2 br M v) (hb:Below W.heap.size W W'):IJ w0 W' b5 b2 br M v:=⟨h.al.below hb,h.pt.below hb,h.rel.bel hb,jB h.bel hb,h.ne2,h.ner,h.lo⟩
theorem IJ.set {w0 W:World} {b5 b2 br:Nat} {M:Nat→Nat→Bool} {v:Bool} (h:IJ w0 W b5 b2 br M v) (u:Bool):IJ w0 (W.setCell ⟨b5,0,none⟩ (.bool u)) b5 b2 br M u∧But b5 W (W.setCell ⟨b5,0,none⟩ (.bool u)):=by
 have hb:But b5 W (W.setCell ⟨b5,0,none⟩ (.bool u)):=(But.refl b5 W).set 0 _
 exact ⟨⟨h.al.setOne _,h.pt.grown hb (by simp;exact h.ne2),h.rel.but hb h.ner,belBut h.bel hb h.lo h.bel.size,h.ne2,h.ner,h.lo⟩,hb⟩
def imB (M:Nat→Nat→Bool) (o:Int × Int):Bool:=decide (o.1=o.2) || M o.1.toNat o.2.toNat
abbrev fnI (b5 b2:Nat):Value:=.func (.func 161) #[] #[.pointer (some ⟨b5,0,none⟩),.pointer (some ⟨b2,0,none⟩)]
theorem implied1_any {w0 W:World} {b5 b2 br:Nat} {M:Nat→Nat→Bool} {v:Bool} (h:IJ w0 W b5 b2 br M v) (i j:Nat) (hi:i<8) (hj:j<8) (u:Bool) (hu:u=(v && imB M ((i:Int),(j:Int)))) :
  Calls Tryz.prog 161 #[.int .i64 (i:Int),.int .i64 (j:Int),.pointer (some ⟨b5,0,none⟩),.pointer (some ⟨b2,0,none⟩)] W fun e w'=>e=.returned (.tuple #[])∧IJ w0 w' b5 b2 br M u∧But b5 W w':=by
 have FIN:=jH (h.set u)
 obtain ⟨c5,f5⟩:=h.al.one
 obtain ⟨c2,-⟩:=h.pt.one
 have cr:=h.rel.2 i j hi hj
 have hl:=h.rel.1
 obtain ⟨x,hx⟩:∃ x,x=M i j:=⟨_,rfl⟩
 rw [← hx] at cr
 have hu2:u=(v && (decide ((i:Int)=(j:Int)) || x)):=by rw [hu,hx];simp [imB]
 have i0:(0:Int)≤(i:Int):=by omega
 have i1:(i:Int)<8:=by omega
 have j0:(0:Int)≤(j:Int):=by omega
 have j1:(j:Int)<8:=by omega
 clear h hu hx hi hj
 cases v with
 | false =>
  have hu3:u=false:=hu2
  subst hu3
  clear hu2
  go_enter Tryz.func161,Tryz.ntmps161
  go_wp2_with fail
  go_end0
  exact ⟨rfl,FIN.out.1,FIN.out.2⟩
 | true =>
  by_cases e:(i:Int)=(j:Int)
  ·have hu3:u=true:=by rw [hu2,decide_eq_true e];rfl
   subst hu3
   have e2:((i:Int) == (j:Int))=true:=by simpa using e
   clear hu2
   go_enter Tryz.func161,Tryz.ntmps161
   go_wp2_with fail
   go_end0
   exact ⟨rfl,FIN.out.1,FIN.out.2⟩
  ·have hu3:u=x:=by rw [hu2,decide_eq_false e];simp
   subst hu3
   have e2:((i:Int) == (j:Int))=false:=by simpa using e
   clear hu2
   go_enter Tryz.func161,Tryz.ntmps161
   go_wp2_with fail
   go_end0
   exact ⟨rfl,FIN.out.1,FIN.out.2⟩
def imC (M:Nat→Nat→Bool) (c:Ch):Bool:=(implC c).all (imB M)
theorem imC_ref (M:Nat→Nat→Bool) (m:Bool) (r:Int) (c:Ch):imC M (.ref m r c)=((c.regs.all fun l=>imB M (l,r)) && imC M c):=by
 unfold imC
 simp only [implC,List.all_append,List.all_map]
 rfl
theorem all_take_next {α:Type} {l:List α} {p:α→Bool} {k:Nat} {x:α} (h:l[k]?=some x):(l.take (k+1)).all p=((l.take k).all p && p x):=by
 rw [List.take_add_one,h]
 simp [List.all_append]
theorem imply_any {w0:World} {b5 b2 br:Nat} {M:Nat→Nat→Bool}:∀ (c:Ch) (f:Fv) (W:World) (v:Bool),Ok c→(∀ q∈c.regs,0≤q∧q<8)→TyAt w0 f c.ty→IJ w0 W b5 b2 br M v →
  Calls Tryz.prog 160 #[f.v,fnI b5 b2] W fun e w'=>e=.returned (.tuple #[])∧IJ w0 w' b5 b2 br M (v && imC M c)∧But b5 W w':=by
 intro c
 induction c with
 | leaf k s =>
  intro f W v hc hq h hJ
  obtain ⟨a,cap,rfl,-⟩:=h.leaf
  have FIN:Hid (IJ w0 (W.alloc (tyO k false 0 s a 0 cap)) b5 b2 br M (v && imC M (.leaf k s))∧But b5 W (W.alloc (tyO k false 0 s a 0 cap))):=jH ⟨by rw [show imC M (.leaf k s)=true from rfl,Bool.and_true];exact hJ.aft (belA bR),But.below (belA bR)⟩
  show Calls Tryz.prog 160 #[tyV k false 0 s a 0 cap,fnI b5 b2] W _
  clear hJ h hc hq
  go_enter Tryz.func160,Tryz.ntmps160
  go_wp2_with fail
  exact bodyPost_ret (results_none rfl _ _ _) rfl ⟨rfl,FIN.out.1,FIN.out.2⟩
 | box c ih =>
  intro f W v hc hq h hJ
  obtain ⟨g,off,cap,f',rfl,hc5,ht⟩:=h.box
  have hJ1:=hJ.aft (belA bR:Below W.heap.size W (W.alloc (tyO 3 false 0 0 (some ⟨g,off,none⟩) 1 cap)))
  have IH:=jH (ih f' _ v ⟨hc.ok,by have:=hc.deep;simp [Ch.depth] at this;omega⟩ hq ht hJ1)
  obtain ⟨hg,p0,p1,p2,p3,p4⟩:=hc5.below hJ.bel
  obtain ⟨k',m',r',s',a',n',cap'⟩:=f'
  show Calls Tryz.prog 160 #[tyV 3 false 0 0 (some ⟨g,off,none⟩) 1 cap,fnI b5 b2] W _
  clear hJ1 hJ h hc hq ih ht hc5
  go_enter Tryz.func160,Tryz.ntmps160
  go_wp2_with (go_at_call 160;refine IH.out.mono ?_;rintro e w1 ⟨rfl,hj1,hb1⟩;have H1:=jH hj1;have H2:Hid (But b5 W w1):=jH ((But.below (belA bR)).trans hb1);clear hj1 hb1)
  go_end0
  exact ⟨rfl,H1.out,H2.out⟩
 | ref m r c ih =>
  intro f W v hc hq h hJ
  obtain ⟨g,off,cap,f',rfl,hc5,ht,r0,r1⟩:=h.ref
  have hoc:Ok c:=⟨hc.ok.2,by have:=hc.deep;simp [Ch.depth] at this;omega⟩
  have hqc:∀ q∈c.regs,0≤q∧q<8:=fun q hq'=>hq q (by simp [Ch.regs,hq'])
  have hr:0≤r∧r<8:=hq r (by simp [Ch.regs])
  obtain ⟨j,rfl⟩:∃ j:Nat,r=(j:Int):=⟨r.toNat,by omega⟩
  obtain ⟨W1,hW1⟩:∃ W1,W1=W.alloc (.cells #[.int .u8 4,.bool m,.int .i64 (j:Int),.int .i64 0,.slice (some ⟨g,off,none⟩) 1 cap] 46 (0,0)):=⟨_,rfl⟩
  have hJ1:IJ w0 W1 b5 b2 br M v:=by rw [hW1];exact hJ.aft (belA bR)
  have hb5:b5<W.heap.size:=hJ.al.lt
  have HA1:Hid (At W1 W.heap.size (Fv.o ⟨4,m,(j:Int),0,some ⟨g,off,none⟩,1,cap⟩)):=jH (by rw [hW1];exact At.new _ _)
  have HBW:Hid (Below W.heap.size W W1):=jH (by rw [hW1];exact belA bR)
  have HJ1:=jH hJ1
  have CR:=jH (Regions_yes c f' W1 hoc (ht.bel hJ1.bel))
  have IH:Hid (∀ (V:World) (u:Bool),IJ w0 V b5 b2 br M u→Calls Tryz.prog 160 #[f'.v,fnI b5 b2] V fun e w'=>e=.returned (.tuple #[])∧IJ w0 w' b5 b2 br M (u && imC M c)∧But b5 V w'):=fun V u hV=>ih f' V u hoc hqc ht hV
  have PC:Hid (∀ V,Below w0.heap.size w0 V→C5 V g off f'):=fun V hV=>hc5.below hV
  have HQC:=jH hqc
  have HJ8:Hid (j<8):=by show j<8;omega
  have HDE:Hid (c.regs.length≤48):=by have h1:=regs_le c;have h2:=hoc.deep;show c.regs.length≤48;omega
  have HB5:=jH hb5
  obtain ⟨k',m',r',s',a',n',cap'⟩:=f'
  obtain ⟨-,q0,q1,q2,q3,q4⟩:=At.ty (f:=⟨4,m,(j:Int),0,some ⟨g,off,none⟩,1,cap⟩) HA1.out
  simp only [Nat.zero_add] at q0 q1 q2 q3 q4
  obtain ⟨hg,p0,p1,p2,p3,p4⟩:=PC.out W1 HJ1.out.bel
  show Calls Tryz.prog 160 #[tyV 4 m (j:Int) 0 (some ⟨g,off,none⟩) 1 cap,fnI b5 b2] W _
  have hlt1:=HA1.out.lt
  clear hJ1 hJ h hc hq ih ht hc5 hoc hqc hr r0 r1 hb5
  go_enter Tryz.func160,Tryz.ntmps160
  go_upto_region 1 with fail
  rw [← hW1]
  clear hW1
  go_wp2_with (go_at_call 33;refine CR.out.mono ?_;rintro e w2 ⟨⟨vr,rfl,hrow⟩,hb2⟩;have HJ2:=jH (HJ1.out.aft hb2);have HA2:=jH (HA1.out.below hb2);have HT2:Hid (But b5 W w2):=jH ((But.below HBW.out).trans (But.below hb2));have HW:=jH hrow;obtain ⟨ra,rc,hv⟩:=own_sl hrow;subst hv;clear hb2 hrow)
  obtain ⟨n,hn⟩:∃ n,n=c.regs.length:=⟨_,rfl⟩
  have HN:=jH hn
  rw [← hn] at HW ⊢
  have n0:(n:Int)≤48:=by have:=HDE.out;omega
  have HLO:Hid (b5<W1.heap.size):=jH HJ1.out.al.lt
  clear hn q0 q1 q2 q3 q4 p0 p1 p2 p3 p4 hg CR HJ1 HA1 HBW hlt1
  go_loopw [19] (fun x V=>∃ k:Nat,k≤n∧x=.int .i64 (k:Int)∧IJ w0 V b5 b2 br M (v && (c.regs.take k).all fun l=>imB M (l,(j:Int)))∧At V W.heap.size (Fv.o ⟨4,m,(j:Int),0,some ⟨g,off,none⟩,1,cap⟩)∧V.ownsRow W1.heap.size 3 1 (.slice ra n rc) n (iCells c.regs)∧But b5 W V) (fun x _=>n - (intOf x).toNat)
  case atStart=>exact ⟨0,Nat.zero_le _,rfl,by simpa using HJ2.out,HA2.out,HW.out,HT2.out⟩
  case round =>
   clear HJ2 HA2 HW HT2
   obtain ⟨k,hk,rfl,hJ,hA,hW,hT⟩:=hrel
   have HJ:=jH hJ
   have HA:=jH hA
   have HW:=jH hW
   have HT:=jH hT
   clear hJ hA hW hT
   obtain ⟨-,q0,q1,q2,q3,q4⟩:=At.ty (f:=⟨4,m,(j:Int),0,some ⟨g,off,none⟩,1,cap⟩) HA.out
   simp only [Nat.zero_add] at q0 q1 q2 q3 q4
   have hltA:=HA.out.lt
   by_cases hlt:k<n
   ·obtain ⟨q,hq⟩:∃ q,c.regs[k]?=some q:=⟨_,List.getElem?_eq_getElem (by have:=HN.out;omega)⟩
    obtain ⟨hq0,hq1⟩:=HQC.out q (List.mem_of_getElem? hq)
    obtain ⟨i,rfl⟩:∃ i:Nat,q=(i:Int):=⟨q.toNat,by omega⟩
    obtain ⟨gr,rc',e0⟩:=own_is HW.out (by omega)
    have e1:ra=some ⟨gr,0,none⟩:=by cases e0;rfl
    subst e1
    obtain ⟨cq,hgr⟩:=own_cell HW.out (j:=k) (u:=.int .i64 (i:Int)) (by rw [iCells,List.getElem?_map,hq];rfl)
    have C:=jH (implied1_any HJ.out i j (by omega) HJ8.out _ rfl)
    have HNX:=jH (all_take_next (p:=fun l=>imB M (l,(j:Int))) hq)
    have k0:(0:Int)≤(k:Int):=by omega
    have k1:(k:Int)<(n:Int):=by omega
    have HK:=jH hlt
    clear hlt hk hq e0 hq0 hq1
    go_wp2_with (go_at_call 161;refine C.out.mono ?_;rintro e w3 ⟨rfl,hj3,hb3⟩;have HJ3:=jH hj3;have HA3:=jH (HA.out.grown hb3 (by have:=HB5.out;simp;omega));have HW3:=jH (own_grow HW.out hb3 (fun g hg e=>by have:=own_lo HW.out g hg;have:=HLO.out;cases e;omega));have HT3:=jH (HT.out.trans hb3);clear hj3 hb3)
    refine ⟨⟨k+1,HK.out,rfl,?_,HA3.out,HW3.out,HT3.out⟩,?_⟩
    ·rw [HNX.out,← Bool.and_assoc]
     exact HJ3.out
    ·show n - ((k:Int)+1).toNat<n - (k:Int).toNat
     have:=HK.out
     omega
   ·obtain rfl:k=n:=by omega
    have lt:¬ (k:Int)<(k:Int):=by omega
    have eN:(c.regs.take k).all (fun l=>imB M (l,(j:Int)))=c.regs.all fun l=>imB M (l,(j:Int)):=by rw [HN.out,List.take_length]
    rw [eN] at HJ
    have C:=jH (IH.out wr _ HJ.out)
    obtain ⟨hg,p0,p1,p2,p3,p4⟩:=PC.out wr HJ.out.bel
    clear hlt hk eN
    go_wp2_with (go_at_call 160;refine C.out.mono ?_;rintro e w3 ⟨rfl,hj3,hb3⟩;have HJ3:=jH hj3;have HT3:=jH (HT.out.trans hb3);clear hj3 hb3)
    go_end0
    refine ⟨rfl,?_,HT3.out⟩
    rw [imC_ref,← Bool.and_assoc]
    exact HJ3.out
theorem hasImplied_any (w:World) (br:Nat) (M:Nat→Nat→Bool) (hM:Rel w br M) (la:Option Addr) (n lc:Nat) (cl:List Ch) (hL:LcAt w la n lc (cl.map Ch.ty)) (hn:n≤512) (hok:∀ c∈cl,Ok c) (hq:∀ c∈cl,∀ q∈c.regs,0≤q∧q<8) (r:Bool) (hr:r=cl.all (imC M)) :
  Calls Tryz.prog 138 #[.pointer (some ⟨br,0,none⟩),.slice la n lc] w fun e w'=>e=.returned (.bool r)∧Below w.heap.size w w':=by
 have hlen:n=cl.length:=by have:=hL.len;rw [List.length_map] at this;exact this
 have HLN:=jH hlen
 have HL:=jH hL
 have HOK:=jH hok
 have HQ:=jH hq
 have HR:=jH hr
 have n0:(n:Int)≤512:=by omega
 have H0:Hid (IJ w ((w.alloc (One (.pointer (some ⟨br,0,none⟩)) 214)).alloc (One (.bool true) 4)) (w.heap.size+1) w.heap.size br M true):=jH ⟨at_snd _ _ _,(At.new _ _).alloc _,hM.bel (belA (belA bR)),belA (belA bR),by omega,by have:=hM.1;omega,by omega⟩
 clear hM hL hok hq hr hlen hn
 go_enter Tryz.func138,Tryz.ntmps138
 go_wp2_with fail
 go_loopw [10] (fun x V=>∃ k:Nat,k≤n∧x=.int .i64 (k:Int)∧IJ w V (w.heap.size+1) w.heap.size br M ((cl.take k).all (imC M))) (fun x _=>n - (intOf x).toNat)
 case atStart=>exact ⟨0,Nat.zero_le _,rfl,H0.out⟩
 case round =>
  clear H0
  obtain ⟨k,hk,rfl,hJ⟩:=hrel
  have HJ:=jH hJ
  clear hJ
  by_cases hlt:k<n
  ·obtain ⟨c,hc⟩:∃ c,cl[k]?=some c:=⟨_,List.getElem?_eq_getElem (by have:=HLN.out;omega)⟩
   have hty:(cl.map Ch.ty)[k]?=some c.ty:=by rw [List.getElem?_map,hc];rfl
   obtain ⟨g,off,f,ea,hc5,hT⟩:=HL.out.one hty
   have ea2:la=some ⟨g,off,none⟩:=ea
   subst ea2
   obtain ⟨hg,p0,p1,p2,p3,p4⟩:=hc5.below HJ.out.bel
   have hm:=List.mem_of_getElem? hc
   have C:=jH (imply_any c f (wr.alloc f.o) _ (HOK.out c hm) (HQ.out c hm) hT (HJ.out.aft (belA bR)))
   have HNX:=jH (all_take_next (p:=imC M) hc)
   obtain ⟨kk,mm,rr,ss,aa,nn',cc⟩:=f
   have k0:(0:Int)≤(k:Int):=by omega
   have k1:(k:Int)<(n:Int):=by omega
   have HK:=jH hlt
   clear hlt hk hc hty ea hT hc5 hm
   go_wp2_with (go_at_call 160;refine C.out.mono ?_;rintro e w3 ⟨rfl,hj3,hb3⟩;have HJ3:=jH hj3;clear hj3 hb3)
   refine ⟨⟨k+1,HK.out,rfl,?_⟩,?_⟩
   ·rw [HNX.out]
    exact HJ3.out
   ·show n - ((k:Int)+1).toNat<n - (k:Int).toNat
    have:=HK.out
    omega
  ·obtain rfl:k=n:=by omega
   have lt:¬ (k:Int)<(k:Int):=by omega
   have hre:(cl.take k).all (imC M)=r:=by rw [HLN.out,List.take_length,HR.out]
   rw [hre] at HJ
   obtain ⟨c5,f5⟩:=HJ.out.al.one
   clear hlt hk hre
   go_wp2_with fail
   go_ret
   exact ⟨rfl,HJ.out.bel⟩
end Go.Proofs.YtdlggpcakaofoaaGreat
