import Derived.Test.YtmjenlogbkbgnaaGreatDoorB18
import Derived.BigRegion
namespace Go.Proofs.YtmjenlogbkbgnaaGreatDoor
open Go.RowKit Go.Shelf
set_option linter.unusedVariables false
set_option linter.unusedSimpArgs false
set_option maxRecDepth 100000
set_option maxHeartbeats 8000000
theorem op_use {w0 w:World} (hB0:Below w0.heap.size w0 w) (b:Nat) (s:Scv) (hs:ScS w b s) (t f:Ch) (os:List Ch) (hT:TyAt w s.tw.f t.ty) (hF:TyAt w s.fw.f f.ty) (hL:LcAt w s.ta s.tn s.tc (os.map Ch.ty)) (hxn:s.tn≤2000000) (hO:∀ c∈os,Ok c) (hop:s.pv.op=1) (hok:Ok t) (hne:os≠[]) (r:Bool) (hr:r=alikeB t ((os[0]?).getD (.leaf 0 0))) :
  Calls Tryz.prog 178 #[.pointer (some ⟨b,0,none⟩)] w fun e w'=>e=.returned (.bool r)∧Below w.heap.size w w':=by
 obtain ⟨⟨op,⟨tl,ta,tn,tc⟩,⟨ak,an,al,aa,am,ac⟩,⟨bk,bn,bl,ba,bm,bc⟩,ra,rn,rc,sg,⟨fl,fa,fm,fc⟩,mu,fn,st,nx,el,ps⟩,sa,sn,sc,ua,un,ucap,mn,nm,lv,oa,on,oc,pa,la,ln,lc,na,nn,nc,qa,qn,qc,dr,⟨⟨k,m,q,s,ya,yn,yc⟩,tbr,tbs⟩,⟨⟨k2,m2,q2,s2,ya2,yn2,yc2⟩,fbr,fbs⟩,xa,xn,xc⟩:=s
 have hlt:b<w.heap.size:=hs.lt
 have hop2:op=1:=hop
 subst hop2
 have HC:Hid (∀ W,Below w.heap.size w W→W.cell? ⟨b,0,none⟩=some (.int .u8 1)∧W.cell? ⟨b,12,none⟩=some (.string sg)∧W.cell? ⟨b,13,none⟩=some (.int .i64 fl)∧W.cell? ⟨b,14,none⟩=some (.slice fa fm fc)∧W.cell? ⟨b,15,none⟩=some (.bool mu)∧W.cell? ⟨b,63,none⟩=some (.int .u8 (k:Int))∧W.cell? ⟨b,64,none⟩=some (.bool m)∧W.cell? ⟨b,65,none⟩=some (.int .i64 q)∧W.cell? ⟨b,66,none⟩=some (.int .i64 s)∧W.cell? ⟨b,67,none⟩=some (.slice ya yn yc)∧W.cell? ⟨b,68,none⟩=some (.bool tbr)∧W.cell? ⟨b,69,none⟩=some (.bool tbs)∧W.cell? ⟨b,70,none⟩=some (.int .u8 (k2:Int))∧W.cell? ⟨b,71,none⟩=some (.bool m2)∧W.cell? ⟨b,72,none⟩=some (.int .i64 q2)∧W.cell? ⟨b,73,none⟩=some (.int .i64 s2)∧W.cell? ⟨b,74,none⟩=some (.slice ya2 yn2 yc2)∧W.cell? ⟨b,75,none⟩=some (.bool fbr)∧W.cell? ⟨b,76,none⟩=some (.bool fbs)∧W.cell? ⟨b,77,none⟩=some (.slice xa xn xc)):=fun W hW=>⟨(hs.bel hW).pt.2.1,(hs.bel hW).pt.2.2.2.2.2.2.2.2.2.2.2.2.2.1,(hs.bel hW).pt.2.2.2.2.2.2.2.2.2.2.2.2.2.2.1,(hs.bel hW).pt.2.2.2.2.2.2.2.2.2.2.2.2.2.2.2.1,(hs.bel hW).pt.2.2.2.2.2.2.2.2.2.2.2.2.2.2.2.2.1,(hs.bel hW).tw.2.1,(hs.bel hW).tw.2.2.1,(hs.bel hW).tw.2.2.2.1,(hs.bel hW).tw.2.2.2.2.1,(hs.bel hW).tw.2.2.2.2.2,(hs.bel hW).t68,(hs.bel hW).t69,(hs.bel hW).fw.2.1,(hs.bel hW).fw.2.2.1,(hs.bel hW).fw.2.2.2.1,(hs.bel hW).fw.2.2.2.2.1,(hs.bel hW).fw.2.2.2.2.2,(hs.bel hW).f75,(hs.bel hW).f76,(hs.bel hW).c77⟩
 obtain ⟨o,os',rfl⟩:∃ o os',os=o::os':=by cases os with|nil=>exact absurd rfl hne|cons o l=>exact ⟨o,l,rfl⟩
 obtain ⟨g,off,V0,ea,hE0,hTE⟩:=hL.one (i:=0) (t:=o.ty) rfl
 have ea2:xa=some ⟨g,off,none⟩:=ea
 subst ea2
 rw [Nat.zero_mul,Nat.add_zero] at hE0
 obtain ⟨ok,om,orr,osx,oax,onx,ocx⟩:=V0
 have HE:Hid (C5 w g off ⟨ok,om,orr,osx,oax,onx,ocx⟩):=hE0
 have hxl:0<xn:=by have:=hL.len;simp at this;omega
 have x0:(0:Int)<(xn:Int):=by omega
 have x1:(xn:Int)≤2000000:=by have:xn≤2000000:=hxn;omega
 have hOo:Ok o:=hO o (List.mem_cons_self ..)
 have CA:Hid (∀ W,Below w.heap.size w W→Calls Tryz.prog 21 #[tyV k m q s ya yn yc,tyV ok om orr osx oax onx ocx] W fun e w'=>e=.returned (.bool r)∧Below W.heap.size W w'):=fun W hW=>by rw [hr];exact Alike_yes t o ⟨k,m,q,s,ya,yn,yc⟩ ⟨ok,om,orr,osx,oax,onx,ocx⟩ W (hT.bel hW) (hTE.bel hW) hok hOo
 clear hs hT hF hL hO hr hE0 hTE hOo hxl hxn hok hB0
 obtain ⟨c0,c12,c13,c14,c15,c63,c64,c65,c66,c67,c68,c69,c70,c71,c72,c73,c74,c75,c76,c77⟩:=HC.out _ bR
 go_enter Tryz.func178,Tryz.ntmps178
 go_upto_region 1 with fail
 go_cut [3,4] (fun v u V=>∃ b3 b4,v=.pointer (some ⟨b3,0,none⟩)∧u=.pointer (some ⟨b4,0,none⟩)∧At V b3 (tyO k m q s ya yn yc)∧At V b4 (tyO k2 m2 q2 s2 ya2 yn2 yc2)∧Below w.heap.size w V)
 case first =>
  go_big_region
  all_goals (go_wp2_with fail)
  all_goals (go_meet)
  all_goals first|exact ⟨_,_,rfl,rfl,((At.new _ _).alloc _).drew,(at_snd _ _ _).drew,(belA (belA bR)).drew⟩|exact ⟨_,_,rfl,rfl,(at_snd _ _ _).drew,((At.new _ _).alloc _).drew,(belA (belA bR)).drew⟩
 case rest =>
  obtain ⟨b3,b4,rfl,rfl,hA3,hA4,hB⟩:=hcut
  have HA3:=jH hA3
  have HA4:=jH hA4
  have HB:=jH hB
  clear hA3 hA4 hB
  clear c0 c12 c13 c14 c15 c63 c64 c65 c66 c67 c68 c69 c70 c71 c72 c73 c74 c75 c76 c77
  obtain ⟨c0,c12,c13,c14,c15,c63,c64,c65,c66,c67,c68,c69,c70,c71,c72,c73,c74,c75,c76,c77⟩:=HC.out _ HB.out
  go_upto_region 4 with fail
  clear c0 c12 c13 c14 c15 c63 c64 c65 c66 c67 c68 c69 c70 c71 c72 c73 c74 c75 c76 c77
  refine beginH (S:=fun V=>Below wc.heap.size wc V) (fun _ _ _ _ _ h=>h) (by kernel_rfl) (belN bR 1) (fun hq hH=>?_)
  refine tq 0 22 (.agg #[.int .u8 (k:Int),.bool m,.int .i64 q,.int .i64 s,.slice ya yn yc]) hq rfl rfl (fun W hSw=>by (obtain ⟨c0,c12,c13,c14,c15,c63,c64,c65,c66,c67,c68,c69,c70,c71,c72,c73,c74,c75,c76,c77⟩:=HC.out _ (jB HB.out hSw);obtain ⟨-,y0,y1,y2,y3,y4⟩:=At.ty (f:=⟨k,m,q,s,ya,yn,yc⟩) (HA3.out.below hSw);simp only [Nat.zero_add] at y0 y1 y2 y3 y4;obtain ⟨-,z0,z1,z2,z3,z4⟩:=At.ty (f:=⟨k2,m2,q2,s2,ya2,yn2,yc2⟩) (HA4.out.below hSw);simp only [Nat.zero_add] at z0 z1 z2 z3 z4;obtain ⟨-,x0a,x1a,x2a,x3a,x4a⟩:=HE.out.below (jB HB.out hSw);go_simp;try first|rfl|simp [*])) hH ?_
  simp only [pb,pc]
  refine tz 1 23 (.pointer (some ⟨b,0,none⟩)) hq rfl rfl hH ?_
  simp only [pb,pc]
  refine tz 2 24 (.pointer (some ⟨b,0,none⟩)) hq rfl rfl hH ?_
  simp only [pb,pc]
  refine tz 3 25 (.pointer (some ⟨b,77,none⟩)) hq rfl rfl hH ?_
  simp only [pb,pc]
  refine tq 4 26 (.slice (some ⟨g,off,none⟩) xn xc) hq rfl rfl (fun W hSw=>by (obtain ⟨c0,c12,c13,c14,c15,c63,c64,c65,c66,c67,c68,c69,c70,c71,c72,c73,c74,c75,c76,c77⟩:=HC.out _ (jB HB.out hSw);obtain ⟨-,y0,y1,y2,y3,y4⟩:=At.ty (f:=⟨k,m,q,s,ya,yn,yc⟩) (HA3.out.below hSw);simp only [Nat.zero_add] at y0 y1 y2 y3 y4;obtain ⟨-,z0,z1,z2,z3,z4⟩:=At.ty (f:=⟨k2,m2,q2,s2,ya2,yn2,yc2⟩) (HA4.out.below hSw);simp only [Nat.zero_add] at z0 z1 z2 z3 z4;obtain ⟨-,x0a,x1a,x2a,x3a,x4a⟩:=HE.out.below (jB HB.out hSw);go_simp;try first|rfl|simp [*])) hH ?_
  simp only [pb,pc]
  refine tz 5 27 (.pointer (some ⟨g,off,none⟩)) hq rfl rfl hH ?_
  simp only [pb,pc]
  refine tq 6 28 (.agg #[.int .u8 (ok:Int),.bool om,.int .i64 orr,.int .i64 osx,.slice oax onx ocx]) hq rfl rfl (fun W hSw=>by (obtain ⟨c0,c12,c13,c14,c15,c63,c64,c65,c66,c67,c68,c69,c70,c71,c72,c73,c74,c75,c76,c77⟩:=HC.out _ (jB HB.out hSw);obtain ⟨-,y0,y1,y2,y3,y4⟩:=At.ty (f:=⟨k,m,q,s,ya,yn,yc⟩) (HA3.out.below hSw);simp only [Nat.zero_add] at y0 y1 y2 y3 y4;obtain ⟨-,z0,z1,z2,z3,z4⟩:=At.ty (f:=⟨k2,m2,q2,s2,ya2,yn2,yc2⟩) (HA4.out.below hSw);simp only [Nat.zero_add] at z0 z1 z2 z3 z4;obtain ⟨-,x0a,x1a,x2a,x3a,x4a⟩:=HE.out.below (jB HB.out hSw);go_simp;try first|rfl|simp [*])) hH ?_
  simp only [pb,pc]
  refine aR1 7 rfl (fun K hK=>?_)
  go_simp
  refine (CA.out _ (jB HB.out (belN bR 1))).mono ?_
  rintro e v1 ⟨rfl,hb1⟩
  have hS1:Below wc.heap.size wc v1:=jB (belN bR 1) hb1
  go_wp2_with fail
  refine hK.out _ _ hS1 (fun hH=>?_)
  clear hK K
  try simp only [Act.put,List.setIfInBounds_toArray,pb,pc]
  have HS1:=jH hS1
  clear hb1 hS1
  refine tz 8 2 (.bool r) hq rfl rfl hH ?_
  simp only [pb,pc]
  refine wpAnyH_done (by kernel_rfl) ?_ _
  go_wp2_with fail
  go_ret
  exact ⟨rfl,jB HB.out HS1.out⟩
theorem kind_box {c:Ch} (h:∀ d,c≠.box d) (hok:Ok c):kindC c≠3:=by
 cases c with
 | leaf k s =>
  have:=hok.ok
  have h5:(k=1∨k=2)∧s=0∨k=5∧0≤s∧s<32:=this
  show k≠3
  omega
 | box d=>exact absurd rfl (h d)
 | ref m r d=>show (4:Nat)≠3;omega
theorem kind_ref {c:Ch} (h:∀ m r d,c≠.ref m r d) (hok:Ok c):kindC c≠4:=by
 cases c with
 | leaf k s =>
  have:=hok.ok
  have h5:(k=1∨k=2)∧s=0∨k=5∧0≤s∧s<32:=this
  show k≠4
  omega
 | box d=>show (3:Nat)≠4;omega
 | ref m r d=>exact absurd rfl (h m r d)
def bxB (t o:Ch):Bool:=match t with|.box c=>alikeB c o|_=>false
theorem bxB_no {t o:Ch} (h:∀ d,t≠.box d):bxB t o=false:=by
 cases t with
 | leaf k s=>rfl
 | box d=>exact absurd rfl (h d)
 | ref m r d=>rfl
theorem op_box {w0 w:World} (hB0:Below w0.heap.size w0 w) (b:Nat) (s:Scv) (hs:ScS w b s) (t f:Ch) (os:List Ch) (hT:TyAt w s.tw.f t.ty) (hF:TyAt w s.fw.f f.ty) (hL:LcAt w s.ta s.tn s.tc (os.map Ch.ty)) (hxn:s.tn≤2000000) (hO:∀ c∈os,Ok c) (hop:s.pv.op=5) (hok:Ok t) (hne:os≠[]) (r:Bool) (hr:r=bxB t ((os[0]?).getD (.leaf 0 0))) :
  Calls Tryz.prog 178 #[.pointer (some ⟨b,0,none⟩)] w fun e w'=>e=.returned (.bool r)∧Below w.heap.size w w':=by
 obtain ⟨⟨op,⟨tl,ta,tn,tc⟩,⟨ak,an,al,aa,am,ac⟩,⟨bk,bn,bl,ba,bm,bc⟩,ra,rn,rc,sg,⟨fl,fa,fm,fc⟩,mu,fn,st,nx,el,ps⟩,sa,sn,sc,ua,un,ucap,mn,nm,lv,oa,on,oc,pa,la,ln,lc,na,nn,nc,qa,qn,qc,dr,⟨⟨k,m,q,s,ya,yn,yc⟩,tbr,tbs⟩,⟨⟨k2,m2,q2,s2,ya2,yn2,yc2⟩,fbr,fbs⟩,xa,xn,xc⟩:=s
 have hlt:b<w.heap.size:=hs.lt
 have hop2:op=5:=hop
 subst hop2
 have HC:Hid (∀ W,Below w.heap.size w W→W.cell? ⟨b,0,none⟩=some (.int .u8 5)∧W.cell? ⟨b,12,none⟩=some (.string sg)∧W.cell? ⟨b,13,none⟩=some (.int .i64 fl)∧W.cell? ⟨b,14,none⟩=some (.slice fa fm fc)∧W.cell? ⟨b,15,none⟩=some (.bool mu)∧W.cell? ⟨b,63,none⟩=some (.int .u8 (k:Int))∧W.cell? ⟨b,64,none⟩=some (.bool m)∧W.cell? ⟨b,65,none⟩=some (.int .i64 q)∧W.cell? ⟨b,66,none⟩=some (.int .i64 s)∧W.cell? ⟨b,67,none⟩=some (.slice ya yn yc)∧W.cell? ⟨b,68,none⟩=some (.bool tbr)∧W.cell? ⟨b,69,none⟩=some (.bool tbs)∧W.cell? ⟨b,70,none⟩=some (.int .u8 (k2:Int))∧W.cell? ⟨b,71,none⟩=some (.bool m2)∧W.cell? ⟨b,72,none⟩=some (.int .i64 q2)∧W.cell? ⟨b,73,none⟩=some (.int .i64 s2)∧W.cell? ⟨b,74,none⟩=some (.slice ya2 yn2 yc2)∧W.cell? ⟨b,75,none⟩=some (.bool fbr)∧W.cell? ⟨b,76,none⟩=some (.bool fbs)∧W.cell? ⟨b,77,none⟩=some (.slice xa xn xc)):=fun W hW=>⟨(hs.bel hW).pt.2.1,(hs.bel hW).pt.2.2.2.2.2.2.2.2.2.2.2.2.2.1,(hs.bel hW).pt.2.2.2.2.2.2.2.2.2.2.2.2.2.2.1,(hs.bel hW).pt.2.2.2.2.2.2.2.2.2.2.2.2.2.2.2.1,(hs.bel hW).pt.2.2.2.2.2.2.2.2.2.2.2.2.2.2.2.2.1,(hs.bel hW).tw.2.1,(hs.bel hW).tw.2.2.1,(hs.bel hW).tw.2.2.2.1,(hs.bel hW).tw.2.2.2.2.1,(hs.bel hW).tw.2.2.2.2.2,(hs.bel hW).t68,(hs.bel hW).t69,(hs.bel hW).fw.2.1,(hs.bel hW).fw.2.2.1,(hs.bel hW).fw.2.2.2.1,(hs.bel hW).fw.2.2.2.2.1,(hs.bel hW).fw.2.2.2.2.2,(hs.bel hW).f75,(hs.bel hW).f76,(hs.bel hW).c77⟩
 obtain ⟨o,os',rfl⟩:∃ o os',os=o::os':=by cases os with|nil=>exact absurd rfl hne|cons o l=>exact ⟨o,l,rfl⟩
 obtain ⟨g,off,V0,ea,hE0,hTE⟩:=hL.one (i:=0) (t:=o.ty) rfl
 have ea2:xa=some ⟨g,off,none⟩:=ea
 subst ea2
 rw [Nat.zero_mul,Nat.add_zero] at hE0
 obtain ⟨ok,om,orr,osx,oax,onx,ocx⟩:=V0
 have HE:Hid (C5 w g off ⟨ok,om,orr,osx,oax,onx,ocx⟩):=hE0
 have hxl:0<xn:=by have:=hL.len;simp at this;omega
 have x0:(0:Int)<(xn:Int):=by omega
 have x1:(xn:Int)≤2000000:=by have:xn≤2000000:=hxn;omega
 have hOo:Ok o:=hO o (List.mem_cons_self ..)
 by_cases hbx:∃ d,t=.box d
 rotate_left
 ·have hk:k≠3:=by have:=kind_box (fun d e=>hbx ⟨d,e⟩) hok;rw [← kind_at hT] at this;exact this
  have hr2:r=false:=by rw [hr];exact bxB_no (fun d e=>hbx ⟨d,e⟩)
  subst hr2
  have kb:((k:Int) == 3)=false:=by simp;omega
  have kc:¬ (k:Int)=3:=by omega
  clear hs hT hF hL hO hr hE0 hTE hOo hxl hxn hok hB0 hbx hk
  obtain ⟨c0,c12,c13,c14,c15,c63,c64,c65,c66,c67,c68,c69,c70,c71,c72,c73,c74,c75,c76,c77⟩:=HC.out _ bR
  go_enter Tryz.func178,Tryz.ntmps178
  go_upto_region 1 with fail
  go_cut [3,4] (fun v u V=>∃ b3 b4,v=.pointer (some ⟨b3,0,none⟩)∧u=.pointer (some ⟨b4,0,none⟩)∧At V b3 (tyO k m q s ya yn yc)∧At V b4 (tyO k2 m2 q2 s2 ya2 yn2 yc2)∧Below w.heap.size w V)
  case first =>
   go_big_region
   all_goals (go_wp2_with fail)
   all_goals (go_meet)
   all_goals first|exact ⟨_,_,rfl,rfl,((At.new _ _).alloc _).drew,(at_snd _ _ _).drew,(belA (belA bR)).drew⟩|exact ⟨_,_,rfl,rfl,(at_snd _ _ _).drew,((At.new _ _).alloc _).drew,(belA (belA bR)).drew⟩
  case rest =>
   obtain ⟨b3,b4,rfl,rfl,hA3,hA4,hB⟩:=hcut
   have HA3:=jH hA3
   have HA4:=jH hA4
   have HB:=jH hB
   clear hA3 hA4 hB
   clear c0 c12 c13 c14 c15 c63 c64 c65 c66 c67 c68 c69 c70 c71 c72 c73 c74 c75 c76 c77
   obtain ⟨c0,c12,c13,c14,c15,c63,c64,c65,c66,c67,c68,c69,c70,c71,c72,c73,c74,c75,c76,c77⟩:=HC.out _ HB.out
   go_upto_region 12 with fail
   clear c0 c12 c13 c14 c15 c63 c64 c65 c66 c67 c68 c69 c70 c71 c72 c73 c74 c75 c76 c77
   refine beginH (S:=fun V=>Below wc.heap.size wc V) (fun _ _ _ _ _ h=>h) (by kernel_rfl) (belN bR 1) (fun hq hH=>?_)
   refine tz 0 112 (.pointer (some ⟨b3,0,none⟩)) hq rfl rfl hH ?_
   simp only [pb,pc]
   refine tq 1 113 (.int .u8 (k:Int)) hq rfl rfl (fun W hSw=>by (obtain ⟨c0,c12,c13,c14,c15,c63,c64,c65,c66,c67,c68,c69,c70,c71,c72,c73,c74,c75,c76,c77⟩:=HC.out _ (jB HB.out hSw);obtain ⟨-,y0,y1,y2,y3,y4⟩:=At.ty (f:=⟨k,m,q,s,ya,yn,yc⟩) (HA3.out.below hSw);simp only [Nat.zero_add] at y0 y1 y2 y3 y4;obtain ⟨-,z0,z1,z2,z3,z4⟩:=At.ty (f:=⟨k2,m2,q2,s2,ya2,yn2,yc2⟩) (HA4.out.below hSw);simp only [Nat.zero_add] at z0 z1 z2 z3 z4;obtain ⟨-,x0a,x1a,x2a,x3a,x4a⟩:=HE.out.below (jB HB.out hSw);go_simp;try first|rfl|simp [*])) hH ?_
   simp only [pb,pc]
   refine tq 2 114 (.bool false) hq rfl rfl (fun W hSw=>by (obtain ⟨c0,c12,c13,c14,c15,c63,c64,c65,c66,c67,c68,c69,c70,c71,c72,c73,c74,c75,c76,c77⟩:=HC.out _ (jB HB.out hSw);obtain ⟨-,y0,y1,y2,y3,y4⟩:=At.ty (f:=⟨k,m,q,s,ya,yn,yc⟩) (HA3.out.below hSw);simp only [Nat.zero_add] at y0 y1 y2 y3 y4;obtain ⟨-,z0,z1,z2,z3,z4⟩:=At.ty (f:=⟨k2,m2,q2,s2,ya2,yn2,yc2⟩) (HA4.out.below hSw);simp only [Nat.zero_add] at z0 z1 z2 z3 z4;obtain ⟨-,x0a,x1a,x2a,x3a,x4a⟩:=HE.out.below (jB HB.out hSw);go_simp;try first|rfl|simp [*])) hH ?_
   simp only [pb,pc]
   refine tz 3 115 (.bool false) hq rfl rfl hH ?_
   simp only [pb,pc]
   refine sq 4 116 hq rfl rfl hH ?_
   simp only [pb,pc]
   refine sq 5 117 hq rfl rfl hH ?_
   simp only [pb,pc]
   refine sq 6 118 hq rfl rfl hH ?_
   simp only [pb,pc]
   refine sq 7 119 hq rfl rfl hH ?_
   simp only [pb,pc]
   refine sq 8 120 hq rfl rfl hH ?_
   simp only [pb,pc]
   refine sq 9 121 hq rfl rfl hH ?_
   simp only [pb,pc]
   refine sq 10 122 hq rfl rfl hH ?_
   simp only [pb,pc]
   refine sq 11 123 hq rfl rfl hH ?_
   simp only [pb,pc]
   refine sq 12 124 hq rfl rfl hH ?_
   simp only [pb,pc]
   refine sq 13 125 hq rfl rfl hH ?_
   simp only [pb,pc]
   refine sq 14 126 hq rfl rfl hH ?_
   simp only [pb,pc]
   refine tz 15 127 (.bool false) hq rfl rfl hH ?_
   simp only [pb,pc]
   refine tz 16 2 (.bool false) hq rfl rfl hH ?_
   simp only [pb,pc]
   refine wpAnyH_done (by kernel_rfl) ?_ _
   go_wp2_with fail
   go_ret
   exact ⟨rfl,belN HB.out _⟩
 obtain ⟨d,rfl⟩:=hbx
 obtain ⟨g2,off2,cap2,V2,he2,hE2,hTE2⟩:=hT.box
 cases he2
 obtain ⟨dk,dm,dr2,ds,da,dn,dc⟩:=V2
 have HE2:Hid (C5 w g2 off2 ⟨dk,dm,dr2,ds,da,dn,dc⟩):=hE2
 have CA:Hid (∀ W,Below w.heap.size w W→Calls Tryz.prog 21 #[tyV dk dm dr2 ds da dn dc,tyV ok om orr osx oax onx ocx] W fun e w'=>e=.returned (.bool r)∧Below W.heap.size W w'):=fun W hW=>by rw [hr];exact Alike_yes d o ⟨dk,dm,dr2,ds,da,dn,dc⟩ ⟨ok,om,orr,osx,oax,onx,ocx⟩ W (hTE2.bel hW) (hTE.bel hW) ⟨hok.ok,by have:=hok.deep;simp [Ch.depth] at this;omega⟩ hOo
 clear hs hT hF hL hO hr hE0 hTE hOo hxl hxn hok hB0 hE2 hTE2
 obtain ⟨c0,c12,c13,c14,c15,c63,c64,c65,c66,c67,c68,c69,c70,c71,c72,c73,c74,c75,c76,c77⟩:=HC.out _ bR
 go_enter Tryz.func178,Tryz.ntmps178
 go_upto_region 1 with fail
 go_cut [3,4] (fun v u V=>∃ b3 b4,v=.pointer (some ⟨b3,0,none⟩)∧u=.pointer (some ⟨b4,0,none⟩)∧At V b3 (tyO 3 false 0 0 (some ⟨g2,off2,none⟩) 1 yc)∧At V b4 (tyO k2 m2 q2 s2 ya2 yn2 yc2)∧Below w.heap.size w V)
 case first =>
  go_big_region
  all_goals (go_wp2_with fail)
  all_goals (go_meet)
  all_goals first|exact ⟨_,_,rfl,rfl,((At.new _ _).alloc _).drew,(at_snd _ _ _).drew,(belA (belA bR)).drew⟩|exact ⟨_,_,rfl,rfl,(at_snd _ _ _).drew,((At.new _ _).alloc _).drew,(belA (belA bR)).drew⟩
 case rest =>
  obtain ⟨b3,b4,rfl,rfl,hA3,hA4,hB⟩:=hcut
  have HA3:=jH hA3
  have HA4:=jH hA4
  have HB:=jH hB
  clear hA3 hA4 hB
  clear c0 c12 c13 c14 c15 c63 c64 c65 c66 c67 c68 c69 c70 c71 c72 c73 c74 c75 c76 c77
  obtain ⟨c0,c12,c13,c14,c15,c63,c64,c65,c66,c67,c68,c69,c70,c71,c72,c73,c74,c75,c76,c77⟩:=HC.out _ HB.out
  go_upto_region 12 with fail
  clear c0 c12 c13 c14 c15 c63 c64 c65 c66 c67 c68 c69 c70 c71 c72 c73 c74 c75 c76 c77
  refine beginH (S:=fun V=>Below wc.heap.size wc V) (fun _ _ _ _ _ h=>h) (by kernel_rfl) (belN bR 1) (fun hq hH=>?_)
  refine tz 0 112 (.pointer (some ⟨b3,0,none⟩)) hq rfl rfl hH ?_
  simp only [pb,pc]
  refine tq 1 113 (.int .u8 3) hq rfl rfl (fun W hSw=>by (obtain ⟨c0,c12,c13,c14,c15,c63,c64,c65,c66,c67,c68,c69,c70,c71,c72,c73,c74,c75,c76,c77⟩:=HC.out _ (jB HB.out hSw);obtain ⟨-,y0,y1,y2,y3,y4⟩:=At.ty (f:=⟨3,false,0,0,some ⟨g2,off2,none⟩,1,yc⟩) (HA3.out.below hSw);simp only [Nat.zero_add] at y0 y1 y2 y3 y4;obtain ⟨-,z0,z1,z2,z3,z4⟩:=At.ty (f:=⟨k2,m2,q2,s2,ya2,yn2,yc2⟩) (HA4.out.below hSw);simp only [Nat.zero_add] at z0 z1 z2 z3 z4;obtain ⟨-,x0a,x1a,x2a,x3a,x4a⟩:=HE.out.below (jB HB.out hSw);obtain ⟨-,w0a,w1a,w2a,w3a,w4a⟩:=HE2.out.below (jB HB.out hSw);go_simp;try first|rfl|simp [*])) hH ?_
  simp only [pb,pc]
  refine tq 2 114 (.bool true) hq rfl rfl (fun W hSw=>by (obtain ⟨c0,c12,c13,c14,c15,c63,c64,c65,c66,c67,c68,c69,c70,c71,c72,c73,c74,c75,c76,c77⟩:=HC.out _ (jB HB.out hSw);obtain ⟨-,y0,y1,y2,y3,y4⟩:=At.ty (f:=⟨3,false,0,0,some ⟨g2,off2,none⟩,1,yc⟩) (HA3.out.below hSw);simp only [Nat.zero_add] at y0 y1 y2 y3 y4;obtain ⟨-,z0,z1,z2,z3,z4⟩:=At.ty (f:=⟨k2,m2,q2,s2,ya2,yn2,yc2⟩) (HA4.out.below hSw);simp only [Nat.zero_add] at z0 z1 z2 z3 z4;obtain ⟨-,x0a,x1a,x2a,x3a,x4a⟩:=HE.out.below (jB HB.out hSw);obtain ⟨-,w0a,w1a,w2a,w3a,w4a⟩:=HE2.out.below (jB HB.out hSw);go_simp;try first|rfl|simp [*])) hH ?_
  simp only [pb,pc]
  refine tz 3 115 (.bool true) hq rfl rfl hH ?_
  simp only [pb,pc]
  refine tz 4 116 (.pointer (some ⟨b3,4,none⟩)) hq rfl rfl hH ?_
  simp only [pb,pc]
  refine tq 5 117 (.slice (some ⟨g2,off2,none⟩) 1 yc) hq rfl rfl (fun W hSw=>by (obtain ⟨c0,c12,c13,c14,c15,c63,c64,c65,c66,c67,c68,c69,c70,c71,c72,c73,c74,c75,c76,c77⟩:=HC.out _ (jB HB.out hSw);obtain ⟨-,y0,y1,y2,y3,y4⟩:=At.ty (f:=⟨3,false,0,0,some ⟨g2,off2,none⟩,1,yc⟩) (HA3.out.below hSw);simp only [Nat.zero_add] at y0 y1 y2 y3 y4;obtain ⟨-,z0,z1,z2,z3,z4⟩:=At.ty (f:=⟨k2,m2,q2,s2,ya2,yn2,yc2⟩) (HA4.out.below hSw);simp only [Nat.zero_add] at z0 z1 z2 z3 z4;obtain ⟨-,x0a,x1a,x2a,x3a,x4a⟩:=HE.out.below (jB HB.out hSw);obtain ⟨-,w0a,w1a,w2a,w3a,w4a⟩:=HE2.out.below (jB HB.out hSw);go_simp;try first|rfl|simp [*])) hH ?_
  simp only [pb,pc]
  refine tz 6 118 (.pointer (some ⟨g2,off2,none⟩)) hq rfl rfl hH ?_
  simp only [pb,pc]
  refine tq 7 119 (.agg #[.int .u8 (dk:Int),.bool dm,.int .i64 dr2,.int .i64 ds,.slice da dn dc]) hq rfl rfl (fun W hSw=>by (obtain ⟨c0,c12,c13,c14,c15,c63,c64,c65,c66,c67,c68,c69,c70,c71,c72,c73,c74,c75,c76,c77⟩:=HC.out _ (jB HB.out hSw);obtain ⟨-,y0,y1,y2,y3,y4⟩:=At.ty (f:=⟨3,false,0,0,some ⟨g2,off2,none⟩,1,yc⟩) (HA3.out.below hSw);simp only [Nat.zero_add] at y0 y1 y2 y3 y4;obtain ⟨-,z0,z1,z2,z3,z4⟩:=At.ty (f:=⟨k2,m2,q2,s2,ya2,yn2,yc2⟩) (HA4.out.below hSw);simp only [Nat.zero_add] at z0 z1 z2 z3 z4;obtain ⟨-,x0a,x1a,x2a,x3a,x4a⟩:=HE.out.below (jB HB.out hSw);obtain ⟨-,w0a,w1a,w2a,w3a,w4a⟩:=HE2.out.below (jB HB.out hSw);go_simp;try first|rfl|simp [*])) hH ?_
  simp only [pb,pc]
  refine tz 8 120 (.pointer (some ⟨b,0,none⟩)) hq rfl rfl hH ?_
  simp only [pb,pc]
  refine tz 9 121 (.pointer (some ⟨b,0,none⟩)) hq rfl rfl hH ?_
  simp only [pb,pc]
  refine tz 10 122 (.pointer (some ⟨b,77,none⟩)) hq rfl rfl hH ?_
  simp only [pb,pc]
  refine tq 11 123 (.slice (some ⟨g,off,none⟩) xn xc) hq rfl rfl (fun W hSw=>by (obtain ⟨c0,c12,c13,c14,c15,c63,c64,c65,c66,c67,c68,c69,c70,c71,c72,c73,c74,c75,c76,c77⟩:=HC.out _ (jB HB.out hSw);obtain ⟨-,y0,y1,y2,y3,y4⟩:=At.ty (f:=⟨3,false,0,0,some ⟨g2,off2,none⟩,1,yc⟩) (HA3.out.below hSw);simp only [Nat.zero_add] at y0 y1 y2 y3 y4;obtain ⟨-,z0,z1,z2,z3,z4⟩:=At.ty (f:=⟨k2,m2,q2,s2,ya2,yn2,yc2⟩) (HA4.out.below hSw);simp only [Nat.zero_add] at z0 z1 z2 z3 z4;obtain ⟨-,x0a,x1a,x2a,x3a,x4a⟩:=HE.out.below (jB HB.out hSw);obtain ⟨-,w0a,w1a,w2a,w3a,w4a⟩:=HE2.out.below (jB HB.out hSw);go_simp;try first|rfl|simp [*])) hH ?_
  simp only [pb,pc]
  refine tz 12 124 (.pointer (some ⟨g,off,none⟩)) hq rfl rfl hH ?_
  simp only [pb,pc]
  refine tq 13 125 (.agg #[.int .u8 (ok:Int),.bool om,.int .i64 orr,.int .i64 osx,.slice oax onx ocx]) hq rfl rfl (fun W hSw=>by (obtain ⟨c0,c12,c13,c14,c15,c63,c64,c65,c66,c67,c68,c69,c70,c71,c72,c73,c74,c75,c76,c77⟩:=HC.out _ (jB HB.out hSw);obtain ⟨-,y0,y1,y2,y3,y4⟩:=At.ty (f:=⟨3,false,0,0,some ⟨g2,off2,none⟩,1,yc⟩) (HA3.out.below hSw);simp only [Nat.zero_add] at y0 y1 y2 y3 y4;obtain ⟨-,z0,z1,z2,z3,z4⟩:=At.ty (f:=⟨k2,m2,q2,s2,ya2,yn2,yc2⟩) (HA4.out.below hSw);simp only [Nat.zero_add] at z0 z1 z2 z3 z4;obtain ⟨-,x0a,x1a,x2a,x3a,x4a⟩:=HE.out.below (jB HB.out hSw);obtain ⟨-,w0a,w1a,w2a,w3a,w4a⟩:=HE2.out.below (jB HB.out hSw);go_simp;try first|rfl|simp [*])) hH ?_
  simp only [pb,pc]
  refine aR1 14 rfl (fun K hK=>?_)
  go_simp
  refine (CA.out _ (jB HB.out (belN bR 1))).mono ?_
  rintro e v1 ⟨rfl,hb1⟩
  have hS1:Below wc.heap.size wc v1:=jB (belN bR 1) hb1
  go_wp2_with fail
  refine hK.out _ _ hS1 (fun hH=>?_)
  clear hK K
  try simp only [Act.put,List.setIfInBounds_toArray,pb,pc]
  have HS1:=jH hS1
  clear hb1 hS1
  refine tz 15 127 (.bool r) hq rfl rfl hH ?_
  simp only [pb,pc]
  refine tz 16 2 (.bool r) hq rfl rfl hH ?_
  simp only [pb,pc]
  refine wpAnyH_done (by kernel_rfl) ?_ _
  go_wp2_with fail
  go_ret
  exact ⟨rfl,jB HB.out HS1.out⟩
end Go.Proofs.YtmjenlogbkbgnaaGreatDoor
