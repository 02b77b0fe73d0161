import Derived.Test.YtmjenlogbkbgnaaGreatDoorB19
namespace Go.Proofs.YtmjenlogbkbgnaaGreatDoor
open Go.RowKit Go.Shelf
set_option linter.unusedVariables false
set_option linter.unusedSimpArgs false
set_option maxRecDepth 100000
set_option maxHeartbeats 8000000
def brB (t f:Ch) (mu bs:Bool):Bool:=match t with|.ref m _ c=>decide (m=mu) && alikeB c f && !(mu && bs)|_=>false
theorem brB_no {t f:Ch} {mu bs:Bool} (h:∀ m r d,t≠.ref m r d):brB t f mu bs=false:=by
 cases t with
 | leaf k s=>rfl
 | box d=>rfl
 | ref m r d=>exact absurd rfl (h m r d)
theorem op_borrow {w0 w:World} (hB0:Below w0.heap.size w0 w) (b:Nat) (s:Scv) (hs:ScS w b s) (t f:Ch) (os:List Ch) (hT:TyAt w s.tw.f t.ty) (hF:TyAt w s.fw.f f.ty) (hL:LcAt w s.ta s.tn s.tc (os.map Ch.ty)) (hxn:s.tn≤2000000) (hO:∀ c∈os,Ok c) (hop:s.pv.op=4) (hok:Ok t) (hof:Ok f) (r:Bool) (hr:r=brB t f s.pv.mu s.fw.bs) :
  Calls Tryz.prog 178 #[.pointer (some ⟨b,0,none⟩)] w fun e w'=>e=.returned (.bool r)∧Below w.heap.size w w':=by
 obtain ⟨⟨op,⟨tl,ta,tn,tc⟩,⟨ak,an,al,aa,am,ac⟩,⟨bk,bn,bl,ba,bm,bc⟩,ra,rn,rc,sg,⟨fl,fa,fm,fc⟩,mu,fn,st,nx,el,ps⟩,sa,sn,sc,ua,un,ucap,mn,nm,lv,oa,on,oc,pa,la,ln,lc,na,nn,nc,qa,qn,qc,dr,⟨⟨k,m,q,s,ya,yn,yc⟩,tbr,tbs⟩,⟨⟨k2,m2,q2,s2,ya2,yn2,yc2⟩,fbr,fbs⟩,xa,xn,xc⟩:=s
 have hlt:b<w.heap.size:=hs.lt
 have hop2:op=4:=hop
 subst hop2
 have HC:Hid (∀ W,Below w.heap.size w W→W.cell? ⟨b,0,none⟩=some (.int .u8 4)∧W.cell? ⟨b,12,none⟩=some (.string sg)∧W.cell? ⟨b,13,none⟩=some (.int .i64 fl)∧W.cell? ⟨b,14,none⟩=some (.slice fa fm fc)∧W.cell? ⟨b,15,none⟩=some (.bool mu)∧W.cell? ⟨b,63,none⟩=some (.int .u8 (k:Int))∧W.cell? ⟨b,64,none⟩=some (.bool m)∧W.cell? ⟨b,65,none⟩=some (.int .i64 q)∧W.cell? ⟨b,66,none⟩=some (.int .i64 s)∧W.cell? ⟨b,67,none⟩=some (.slice ya yn yc)∧W.cell? ⟨b,68,none⟩=some (.bool tbr)∧W.cell? ⟨b,69,none⟩=some (.bool tbs)∧W.cell? ⟨b,70,none⟩=some (.int .u8 (k2:Int))∧W.cell? ⟨b,71,none⟩=some (.bool m2)∧W.cell? ⟨b,72,none⟩=some (.int .i64 q2)∧W.cell? ⟨b,73,none⟩=some (.int .i64 s2)∧W.cell? ⟨b,74,none⟩=some (.slice ya2 yn2 yc2)∧W.cell? ⟨b,75,none⟩=some (.bool fbr)∧W.cell? ⟨b,76,none⟩=some (.bool fbs)∧W.cell? ⟨b,77,none⟩=some (.slice xa xn xc)):=fun W hW=>⟨(hs.bel hW).pt.2.1,(hs.bel hW).pt.2.2.2.2.2.2.2.2.2.2.2.2.2.1,(hs.bel hW).pt.2.2.2.2.2.2.2.2.2.2.2.2.2.2.1,(hs.bel hW).pt.2.2.2.2.2.2.2.2.2.2.2.2.2.2.2.1,(hs.bel hW).pt.2.2.2.2.2.2.2.2.2.2.2.2.2.2.2.2.1,(hs.bel hW).tw.2.1,(hs.bel hW).tw.2.2.1,(hs.bel hW).tw.2.2.2.1,(hs.bel hW).tw.2.2.2.2.1,(hs.bel hW).tw.2.2.2.2.2,(hs.bel hW).t68,(hs.bel hW).t69,(hs.bel hW).fw.2.1,(hs.bel hW).fw.2.2.1,(hs.bel hW).fw.2.2.2.1,(hs.bel hW).fw.2.2.2.2.1,(hs.bel hW).fw.2.2.2.2.2,(hs.bel hW).f75,(hs.bel hW).f76,(hs.bel hW).c77⟩
 by_cases hrf:∃ m r d,t=.ref m r d
 rotate_left
 ·have hk:k≠4:=by have:=kind_ref (fun m r d e=>hrf ⟨m,r,d,e⟩) hok;rw [← kind_at hT] at this;exact this
  have hr2:r=false:=by rw [hr];exact brB_no (fun m r d e=>hrf ⟨m,r,d,e⟩)
  subst hr2
  have kb:((k:Int) == 4)=false:=by simp;omega
  have kc:¬ (k:Int)=4:=by omega
  clear hs hT hF hL hO hr hxn hok hof hB0 hrf hk
  obtain ⟨c0,c12,c13,c14,c15,c63,c64,c65,c66,c67,c68,c69,c70,c71,c72,c73,c74,c75,c76,c77⟩:=HC.out _ bR
  go_enter Tryz.func178,Tryz.ntmps178
  go_upto_region 1 with fail
  go_cut [3,4] (fun v u V=>∃ b3 b4,v=.pointer (some ⟨b3,0,none⟩)∧u=.pointer (some ⟨b4,0,none⟩)∧At V b3 (tyO k m q s ya yn yc)∧At V b4 (tyO k2 m2 q2 s2 ya2 yn2 yc2)∧Below w.heap.size w V)
  case first =>
   go_big_region
   all_goals (go_wp2_with fail)
   all_goals (go_meet)
   all_goals first|exact ⟨_,_,rfl,rfl,((At.new _ _).alloc _).drew,(at_snd _ _ _).drew,(belA (belA bR)).drew⟩|exact ⟨_,_,rfl,rfl,(at_snd _ _ _).drew,((At.new _ _).alloc _).drew,(belA (belA bR)).drew⟩
  case rest =>
   obtain ⟨b3,b4,rfl,rfl,hA3,hA4,hB⟩:=hcut
   have HA3:=jH hA3
   have HA4:=jH hA4
   have HB:=jH hB
   clear hA3 hA4 hB
   clear c0 c12 c13 c14 c15 c63 c64 c65 c66 c67 c68 c69 c70 c71 c72 c73 c74 c75 c76 c77
   obtain ⟨c0,c12,c13,c14,c15,c63,c64,c65,c66,c67,c68,c69,c70,c71,c72,c73,c74,c75,c76,c77⟩:=HC.out _ HB.out
   go_upto_region 10 with fail
   clear c0 c12 c13 c14 c15 c63 c64 c65 c66 c67 c68 c69 c70 c71 c72 c73 c74 c75 c76 c77
   refine beginH (S:=fun V=>Below wc.heap.size wc V) (fun _ _ _ _ _ h=>h) (by kernel_rfl) (belN bR 1) (fun hq hH=>?_)
   refine tz 0 74 (.pointer (some ⟨b3,0,none⟩)) hq rfl rfl hH ?_
   simp only [pb,pc]
   refine tq 1 75 (.int .u8 (k:Int)) hq rfl rfl (fun W hSw=>by (obtain ⟨c0,c12,c13,c14,c15,c63,c64,c65,c66,c67,c68,c69,c70,c71,c72,c73,c74,c75,c76,c77⟩:=HC.out _ (jB HB.out hSw);obtain ⟨-,y0,y1,y2,y3,y4⟩:=At.ty (f:=⟨k,m,q,s,ya,yn,yc⟩) (HA3.out.below hSw);simp only [Nat.zero_add] at y0 y1 y2 y3 y4;obtain ⟨-,z0,z1,z2,z3,z4⟩:=At.ty (f:=⟨k2,m2,q2,s2,ya2,yn2,yc2⟩) (HA4.out.below hSw);simp only [Nat.zero_add] at z0 z1 z2 z3 z4; go_simp;try first|rfl|simp [*])) hH ?_
   simp only [pb,pc]
   refine tq 2 76 (.bool false) hq rfl rfl (fun W hSw=>by (obtain ⟨c0,c12,c13,c14,c15,c63,c64,c65,c66,c67,c68,c69,c70,c71,c72,c73,c74,c75,c76,c77⟩:=HC.out _ (jB HB.out hSw);obtain ⟨-,y0,y1,y2,y3,y4⟩:=At.ty (f:=⟨k,m,q,s,ya,yn,yc⟩) (HA3.out.below hSw);simp only [Nat.zero_add] at y0 y1 y2 y3 y4;obtain ⟨-,z0,z1,z2,z3,z4⟩:=At.ty (f:=⟨k2,m2,q2,s2,ya2,yn2,yc2⟩) (HA4.out.below hSw);simp only [Nat.zero_add] at z0 z1 z2 z3 z4; go_simp;try first|rfl|simp [*])) hH ?_
   simp only [pb,pc]
   refine tz 3 77 (.bool false) hq rfl rfl hH ?_
   simp only [pb,pc]
   refine sq 4 78 hq rfl rfl hH ?_
   simp only [pb,pc]
   refine sq 5 79 hq rfl rfl hH ?_
   simp only [pb,pc]
   refine sq 6 80 hq rfl rfl hH ?_
   simp only [pb,pc]
   refine sq 7 81 hq rfl rfl hH ?_
   simp only [pb,pc]
   refine sq 8 82 hq rfl rfl hH ?_
   simp only [pb,pc]
   refine sq 9 83 hq rfl rfl hH ?_
   simp only [pb,pc]
   refine sq 10 84 hq rfl rfl hH ?_
   simp only [pb,pc]
   refine sq 11 85 hq rfl rfl hH ?_
   simp only [pb,pc]
   refine tz 12 86 (.bool false) hq rfl rfl hH ?_
   simp only [pb,pc]
   refine tz 13 87 (.bool false) hq rfl rfl hH ?_
   simp only [pb,pc]
   refine sq 14 88 hq rfl rfl hH ?_
   simp only [pb,pc]
   refine sq 15 89 hq rfl rfl hH ?_
   simp only [pb,pc]
   refine sq 16 90 hq rfl rfl hH ?_
   simp only [pb,pc]
   refine sq 17 91 hq rfl rfl hH ?_
   simp only [pb,pc]
   refine sq 18 92 hq rfl rfl hH ?_
   simp only [pb,pc]
   refine sq 19 93 hq rfl rfl hH ?_
   simp only [pb,pc]
   refine tz 20 94 (.bool false) hq rfl rfl hH ?_
   simp only [pb,pc]
   refine tz 21 95 (.bool false) hq rfl rfl hH ?_
   simp only [pb,pc]
   refine sq 22 96 hq rfl rfl hH ?_
   simp only [pb,pc]
   refine sq 23 97 hq rfl rfl hH ?_
   simp only [pb,pc]
   refine sq 24 98 hq rfl rfl hH ?_
   simp only [pb,pc]
   refine sq 25 99 hq rfl rfl hH ?_
   simp only [pb,pc]
   refine sq 26 100 hq rfl rfl hH ?_
   simp only [pb,pc]
   refine sq 27 101 hq rfl rfl hH ?_
   simp only [pb,pc]
   refine sq 28 102 hq rfl rfl hH ?_
   simp only [pb,pc]
   refine sq 29 103 hq rfl rfl hH ?_
   simp only [pb,pc]
   refine sq 30 104 hq rfl rfl hH ?_
   simp only [pb,pc]
   refine sq 31 105 hq rfl rfl hH ?_
   simp only [pb,pc]
   refine sq 32 106 hq rfl rfl hH ?_
   simp only [pb,pc]
   refine sq 33 107 hq rfl rfl hH ?_
   simp only [pb,pc]
   refine sq 34 108 hq rfl rfl hH ?_
   simp only [pb,pc]
   refine tz 35 109 (.bool false) hq rfl rfl hH ?_
   simp only [pb,pc]
   refine tz 36 2 (.bool false) hq rfl rfl hH ?_
   simp only [pb,pc]
   refine wpAnyH_done (by kernel_rfl) ?_ _
   go_wp2_with fail
   go_ret
   exact ⟨rfl,belN HB.out _⟩
 obtain ⟨m9,r9,d,rfl⟩:=hrf
 obtain ⟨g2,off2,cap2,V2,he2,hE2,hTE2,-⟩:=hT.ref
 cases he2
 obtain ⟨dk,dm,dr2,ds,da,dn,dc⟩:=V2
 have HE2:Hid (C5 w g2 off2 ⟨dk,dm,dr2,ds,da,dn,dc⟩):=hE2
 obtain ⟨a1,ha1⟩:∃ a1,a1=alikeB d f:=⟨_,rfl⟩
 have CA:Hid (∀ W,Below w.heap.size w W→Calls Tryz.prog 21 #[tyV dk dm dr2 ds da dn dc,tyV k2 m2 q2 s2 ya2 yn2 yc2] W fun e w'=>e=.returned (.bool a1)∧Below W.heap.size W w'):=fun W hW=>by rw [ha1];exact Alike_yes d f ⟨dk,dm,dr2,ds,da,dn,dc⟩ ⟨k2,m2,q2,s2,ya2,yn2,yc2⟩ W (hTE2.bel hW) (hF.bel hW) ⟨hok.ok.2,by have:=hok.deep;simp [Ch.depth] at this;omega⟩ hof
 have hr2:r=(decide (m=mu) && a1 && !(mu && fbs)):=by rw [hr,ha1];rfl
 clear hs hT hF hL hO hr hxn hok hof hB0 hE2 hTE2 ha1
 cases m with
 | false =>
  cases mu with
  | false =>
   cases a1 with
   | false =>
    as_aux_lemma =>
     have hr3:r=false:=by rw [hr2];rfl
     subst hr3
     clear hr2
     obtain ⟨c0,c12,c13,c14,c15,c63,c64,c65,c66,c67,c68,c69,c70,c71,c72,c73,c74,c75,c76,c77⟩:=HC.out _ bR
     go_enter Tryz.func178,Tryz.ntmps178
     go_upto_region 1 with fail
     go_cut [3,4] (fun v u V=>∃ b3 b4,v=.pointer (some ⟨b3,0,none⟩)∧u=.pointer (some ⟨b4,0,none⟩)∧At V b3 (tyO 4 false q 0 (some ⟨g2,off2,none⟩) 1 yc)∧At V b4 (tyO k2 m2 q2 s2 ya2 yn2 yc2)∧Below w.heap.size w V)
     case first =>
      go_big_region
      all_goals (go_wp2_with fail)
      all_goals (go_meet)
      all_goals first|exact ⟨_,_,rfl,rfl,((At.new _ _).alloc _).drew,(at_snd _ _ _).drew,(belA (belA bR)).drew⟩|exact ⟨_,_,rfl,rfl,(at_snd _ _ _).drew,((At.new _ _).alloc _).drew,(belA (belA bR)).drew⟩
     case rest =>
      obtain ⟨b3,b4,rfl,rfl,hA3,hA4,hB⟩:=hcut
      have HA3:=jH hA3
      have HA4:=jH hA4
      have HB:=jH hB
      clear hA3 hA4 hB
      clear c0 c12 c13 c14 c15 c63 c64 c65 c66 c67 c68 c69 c70 c71 c72 c73 c74 c75 c76 c77
      obtain ⟨c0,c12,c13,c14,c15,c63,c64,c65,c66,c67,c68,c69,c70,c71,c72,c73,c74,c75,c76,c77⟩:=HC.out _ HB.out
      go_upto_region 10 with fail
      clear c0 c12 c13 c14 c15 c63 c64 c65 c66 c67 c68 c69 c70 c71 c72 c73 c74 c75 c76 c77
      refine beginH (S:=fun V=>Below wc.heap.size wc V) (fun _ _ _ _ _ h=>h) (by kernel_rfl) (belN bR 1) (fun hq hH=>?_)
      refine tz 0 74 (.pointer (some ⟨b3,0,none⟩)) hq rfl rfl hH ?_
      simp only [pb,pc]
      refine tq 1 75 (.int .u8 4) hq rfl rfl (fun W hSw=>by (obtain ⟨c0,c12,c13,c14,c15,c63,c64,c65,c66,c67,c68,c69,c70,c71,c72,c73,c74,c75,c76,c77⟩:=HC.out _ (jB HB.out hSw);obtain ⟨-,y0,y1,y2,y3,y4⟩:=At.ty (f:=⟨4,false,q,0,some ⟨g2,off2,none⟩,1,yc⟩) (HA3.out.below hSw);simp only [Nat.zero_add] at y0 y1 y2 y3 y4;obtain ⟨-,z0,z1,z2,z3,z4⟩:=At.ty (f:=⟨k2,m2,q2,s2,ya2,yn2,yc2⟩) (HA4.out.below hSw);simp only [Nat.zero_add] at z0 z1 z2 z3 z4;obtain ⟨-,w0a,w1a,w2a,w3a,w4a⟩:=HE2.out.below (jB HB.out hSw);go_simp;try first|rfl|simp [*])) hH ?_
      simp only [pb,pc]
      refine tq 2 76 (.bool true) hq rfl rfl (fun W hSw=>by (obtain ⟨c0,c12,c13,c14,c15,c63,c64,c65,c66,c67,c68,c69,c70,c71,c72,c73,c74,c75,c76,c77⟩:=HC.out _ (jB HB.out hSw);obtain ⟨-,y0,y1,y2,y3,y4⟩:=At.ty (f:=⟨4,false,q,0,some ⟨g2,off2,none⟩,1,yc⟩) (HA3.out.below hSw);simp only [Nat.zero_add] at y0 y1 y2 y3 y4;obtain ⟨-,z0,z1,z2,z3,z4⟩:=At.ty (f:=⟨k2,m2,q2,s2,ya2,yn2,yc2⟩) (HA4.out.below hSw);simp only [Nat.zero_add] at z0 z1 z2 z3 z4;obtain ⟨-,w0a,w1a,w2a,w3a,w4a⟩:=HE2.out.below (jB HB.out hSw);go_simp;try first|rfl|simp [*])) hH ?_
      simp only [pb,pc]
      refine tz 3 77 (.bool true) hq rfl rfl hH ?_
      simp only [pb,pc]
      refine tz 4 78 (.pointer (some ⟨b3,1,none⟩)) hq rfl rfl hH ?_
      simp only [pb,pc]
      refine tq 5 79 (.bool false) hq rfl rfl (fun W hSw=>by (obtain ⟨c0,c12,c13,c14,c15,c63,c64,c65,c66,c67,c68,c69,c70,c71,c72,c73,c74,c75,c76,c77⟩:=HC.out _ (jB HB.out hSw);obtain ⟨-,y0,y1,y2,y3,y4⟩:=At.ty (f:=⟨4,false,q,0,some ⟨g2,off2,none⟩,1,yc⟩) (HA3.out.below hSw);simp only [Nat.zero_add] at y0 y1 y2 y3 y4;obtain ⟨-,z0,z1,z2,z3,z4⟩:=At.ty (f:=⟨k2,m2,q2,s2,ya2,yn2,yc2⟩) (HA4.out.below hSw);simp only [Nat.zero_add] at z0 z1 z2 z3 z4;obtain ⟨-,w0a,w1a,w2a,w3a,w4a⟩:=HE2.out.below (jB HB.out hSw);go_simp;try first|rfl|simp [*])) hH ?_
      simp only [pb,pc]
      refine tz 6 80 (.pointer (some ⟨b,0,none⟩)) hq rfl rfl hH ?_
      simp only [pb,pc]
      refine tz 7 81 (.pointer (some ⟨b,0,none⟩)) hq rfl rfl hH ?_
      simp only [pb,pc]
      refine tz 8 82 (.pointer (some ⟨b,0,none⟩)) hq rfl rfl hH ?_
      simp only [pb,pc]
      refine tz 9 83 (.pointer (some ⟨b,15,none⟩)) hq rfl rfl hH ?_
      simp only [pb,pc]
      refine tq 10 84 (.bool false) hq rfl rfl (fun W hSw=>by (obtain ⟨c0,c12,c13,c14,c15,c63,c64,c65,c66,c67,c68,c69,c70,c71,c72,c73,c74,c75,c76,c77⟩:=HC.out _ (jB HB.out hSw);obtain ⟨-,y0,y1,y2,y3,y4⟩:=At.ty (f:=⟨4,false,q,0,some ⟨g2,off2,none⟩,1,yc⟩) (HA3.out.below hSw);simp only [Nat.zero_add] at y0 y1 y2 y3 y4;obtain ⟨-,z0,z1,z2,z3,z4⟩:=At.ty (f:=⟨k2,m2,q2,s2,ya2,yn2,yc2⟩) (HA4.out.below hSw);simp only [Nat.zero_add] at z0 z1 z2 z3 z4;obtain ⟨-,w0a,w1a,w2a,w3a,w4a⟩:=HE2.out.below (jB HB.out hSw);go_simp;try first|rfl|simp [*])) hH ?_
      simp only [pb,pc]
      refine tq 11 85 (.bool true) hq rfl rfl (fun W hSw=>by (obtain ⟨c0,c12,c13,c14,c15,c63,c64,c65,c66,c67,c68,c69,c70,c71,c72,c73,c74,c75,c76,c77⟩:=HC.out _ (jB HB.out hSw);obtain ⟨-,y0,y1,y2,y3,y4⟩:=At.ty (f:=⟨4,false,q,0,some ⟨g2,off2,none⟩,1,yc⟩) (HA3.out.below hSw);simp only [Nat.zero_add] at y0 y1 y2 y3 y4;obtain ⟨-,z0,z1,z2,z3,z4⟩:=At.ty (f:=⟨k2,m2,q2,s2,ya2,yn2,yc2⟩) (HA4.out.below hSw);simp only [Nat.zero_add] at z0 z1 z2 z3 z4;obtain ⟨-,w0a,w1a,w2a,w3a,w4a⟩:=HE2.out.below (jB HB.out hSw);go_simp;try first|rfl|simp [*])) hH ?_
      simp only [pb,pc]
      refine tz 12 86 (.bool true) hq rfl rfl hH ?_
      simp only [pb,pc]
      refine tz 13 87 (.bool true) hq rfl rfl hH ?_
      simp only [pb,pc]
      refine tz 14 88 (.pointer (some ⟨b3,4,none⟩)) hq rfl rfl hH ?_
      simp only [pb,pc]
      refine tq 15 89 (.slice (some ⟨g2,off2,none⟩) 1 yc) hq rfl rfl (fun W hSw=>by (obtain ⟨c0,c12,c13,c14,c15,c63,c64,c65,c66,c67,c68,c69,c70,c71,c72,c73,c74,c75,c76,c77⟩:=HC.out _ (jB HB.out hSw);obtain ⟨-,y0,y1,y2,y3,y4⟩:=At.ty (f:=⟨4,false,q,0,some ⟨g2,off2,none⟩,1,yc⟩) (HA3.out.below hSw);simp only [Nat.zero_add] at y0 y1 y2 y3 y4;obtain ⟨-,z0,z1,z2,z3,z4⟩:=At.ty (f:=⟨k2,m2,q2,s2,ya2,yn2,yc2⟩) (HA4.out.below hSw);simp only [Nat.zero_add] at z0 z1 z2 z3 z4;obtain ⟨-,w0a,w1a,w2a,w3a,w4a⟩:=HE2.out.below (jB HB.out hSw);go_simp;try first|rfl|simp [*])) hH ?_
      simp only [pb,pc]
      refine tz 16 90 (.pointer (some ⟨g2,off2,none⟩)) hq rfl rfl hH ?_
      simp only [pb,pc]
      refine tq 17 91 (.agg #[.int .u8 (dk:Int),.bool dm,.int .i64 dr2,.int .i64 ds,.slice da dn dc]) hq rfl rfl (fun W hSw=>by (obtain ⟨c0,c12,c13,c14,c15,c63,c64,c65,c66,c67,c68,c69,c70,c71,c72,c73,c74,c75,c76,c77⟩:=HC.out _ (jB HB.out hSw);obtain ⟨-,y0,y1,y2,y3,y4⟩:=At.ty (f:=⟨4,false,q,0,some ⟨g2,off2,none⟩,1,yc⟩) (HA3.out.below hSw);simp only [Nat.zero_add] at y0 y1 y2 y3 y4;obtain ⟨-,z0,z1,z2,z3,z4⟩:=At.ty (f:=⟨k2,m2,q2,s2,ya2,yn2,yc2⟩) (HA4.out.below hSw);simp only [Nat.zero_add] at z0 z1 z2 z3 z4;obtain ⟨-,w0a,w1a,w2a,w3a,w4a⟩:=HE2.out.below (jB HB.out hSw);go_simp;try first|rfl|simp [*])) hH ?_
      simp only [pb,pc]
      refine tq 18 92 (.agg #[.int .u8 (k2:Int),.bool m2,.int .i64 q2,.int .i64 s2,.slice ya2 yn2 yc2]) hq rfl rfl (fun W hSw=>by (obtain ⟨c0,c12,c13,c14,c15,c63,c64,c65,c66,c67,c68,c69,c70,c71,c72,c73,c74,c75,c76,c77⟩:=HC.out _ (jB HB.out hSw);obtain ⟨-,y0,y1,y2,y3,y4⟩:=At.ty (f:=⟨4,false,q,0,some ⟨g2,off2,none⟩,1,yc⟩) (HA3.out.below hSw);simp only [Nat.zero_add] at y0 y1 y2 y3 y4;obtain ⟨-,z0,z1,z2,z3,z4⟩:=At.ty (f:=⟨k2,m2,q2,s2,ya2,yn2,yc2⟩) (HA4.out.below hSw);simp only [Nat.zero_add] at z0 z1 z2 z3 z4;obtain ⟨-,w0a,w1a,w2a,w3a,w4a⟩:=HE2.out.below (jB HB.out hSw);go_simp;try first|rfl|simp [*])) hH ?_
      simp only [pb,pc]
      refine aR1 19 rfl (fun K hK=>?_)
      go_simp
      refine (CA.out _ (jB HB.out (belN bR 1))).mono ?_
      rintro e v1 ⟨rfl,hb1⟩
      have hS1:Below wc.heap.size wc v1:=jB (belN bR 1) hb1
      go_wp2_with fail
      refine hK.out _ _ hS1 (fun hH=>?_)
      clear hK K
      try simp only [Act.put,List.setIfInBounds_toArray,pb,pc]
      have HS1:=jH hS1
      clear hb1 hS1
      refine tz 20 94 (.bool false) hq rfl rfl hH ?_
      simp only [pb,pc]
      refine tz 21 95 (.bool false) hq rfl rfl hH ?_
      simp only [pb,pc]
      refine sq 22 96 hq rfl rfl hH ?_
      simp only [pb,pc]
      refine sq 23 97 hq rfl rfl hH ?_
      simp only [pb,pc]
      refine sq 24 98 hq rfl rfl hH ?_
      simp only [pb,pc]
      refine sq 25 99 hq rfl rfl hH ?_
      simp only [pb,pc]
      refine sq 26 100 hq rfl rfl hH ?_
      simp only [pb,pc]
      refine sq 27 101 hq rfl rfl hH ?_
      simp only [pb,pc]
      refine sq 28 102 hq rfl rfl hH ?_
      simp only [pb,pc]
      refine sq 29 103 hq rfl rfl hH ?_
      simp only [pb,pc]
      refine sq 30 104 hq rfl rfl hH ?_
      simp only [pb,pc]
      refine sq 31 105 hq rfl rfl hH ?_
      simp only [pb,pc]
      refine sq 32 106 hq rfl rfl hH ?_
      simp only [pb,pc]
      refine sq 33 107 hq rfl rfl hH ?_
      simp only [pb,pc]
      refine sq 34 108 hq rfl rfl hH ?_
      simp only [pb,pc]
      refine tz 35 109 (.bool false) hq rfl rfl hH ?_
      simp only [pb,pc]
      refine tz 36 2 (.bool false) hq rfl rfl hH ?_
      simp only [pb,pc]
      refine wpAnyH_done (by kernel_rfl) ?_ _
      go_wp2_with fail
      go_ret
      exact ⟨rfl,jB HB.out HS1.out⟩
   | true =>
    as_aux_lemma =>
     have hr3:r=true:=by rw [hr2];rfl
     subst hr3
     clear hr2
     obtain ⟨c0,c12,c13,c14,c15,c63,c64,c65,c66,c67,c68,c69,c70,c71,c72,c73,c74,c75,c76,c77⟩:=HC.out _ bR
     go_enter Tryz.func178,Tryz.ntmps178
     go_upto_region 1 with fail
     go_cut [3,4] (fun v u V=>∃ b3 b4,v=.pointer (some ⟨b3,0,none⟩)∧u=.pointer (some ⟨b4,0,none⟩)∧At V b3 (tyO 4 false q 0 (some ⟨g2,off2,none⟩) 1 yc)∧At V b4 (tyO k2 m2 q2 s2 ya2 yn2 yc2)∧Below w.heap.size w V)
     case first =>
      go_big_region
      all_goals (go_wp2_with fail)
      all_goals (go_meet)
      all_goals first|exact ⟨_,_,rfl,rfl,((At.new _ _).alloc _).drew,(at_snd _ _ _).drew,(belA (belA bR)).drew⟩|exact ⟨_,_,rfl,rfl,(at_snd _ _ _).drew,((At.new _ _).alloc _).drew,(belA (belA bR)).drew⟩
     case rest =>
      obtain ⟨b3,b4,rfl,rfl,hA3,hA4,hB⟩:=hcut
      have HA3:=jH hA3
      have HA4:=jH hA4
      have HB:=jH hB
      clear hA3 hA4 hB
      clear c0 c12 c13 c14 c15 c63 c64 c65 c66 c67 c68 c69 c70 c71 c72 c73 c74 c75 c76 c77
      obtain ⟨c0,c12,c13,c14,c15,c63,c64,c65,c66,c67,c68,c69,c70,c71,c72,c73,c74,c75,c76,c77⟩:=HC.out _ HB.out
      go_upto_region 10 with fail
      clear c0 c12 c13 c14 c15 c63 c64 c65 c66 c67 c68 c69 c70 c71 c72 c73 c74 c75 c76 c77
      refine beginH (S:=fun V=>Below wc.heap.size wc V) (fun _ _ _ _ _ h=>h) (by kernel_rfl) (belN bR 1) (fun hq hH=>?_)
      refine tz 0 74 (.pointer (some ⟨b3,0,none⟩)) hq rfl rfl hH ?_
      simp only [pb,pc]
      refine tq 1 75 (.int .u8 4) hq rfl rfl (fun W hSw=>by (obtain ⟨c0,c12,c13,c14,c15,c63,c64,c65,c66,c67,c68,c69,c70,c71,c72,c73,c74,c75,c76,c77⟩:=HC.out _ (jB HB.out hSw);obtain ⟨-,y0,y1,y2,y3,y4⟩:=At.ty (f:=⟨4,false,q,0,some ⟨g2,off2,none⟩,1,yc⟩) (HA3.out.below hSw);simp only [Nat.zero_add] at y0 y1 y2 y3 y4;obtain ⟨-,z0,z1,z2,z3,z4⟩:=At.ty (f:=⟨k2,m2,q2,s2,ya2,yn2,yc2⟩) (HA4.out.below hSw);simp only [Nat.zero_add] at z0 z1 z2 z3 z4;obtain ⟨-,w0a,w1a,w2a,w3a,w4a⟩:=HE2.out.below (jB HB.out hSw);go_simp;try first|rfl|simp [*])) hH ?_
      simp only [pb,pc]
      refine tq 2 76 (.bool true) hq rfl rfl (fun W hSw=>by (obtain ⟨c0,c12,c13,c14,c15,c63,c64,c65,c66,c67,c68,c69,c70,c71,c72,c73,c74,c75,c76,c77⟩:=HC.out _ (jB HB.out hSw);obtain ⟨-,y0,y1,y2,y3,y4⟩:=At.ty (f:=⟨4,false,q,0,some ⟨g2,off2,none⟩,1,yc⟩) (HA3.out.below hSw);simp only [Nat.zero_add] at y0 y1 y2 y3 y4;obtain ⟨-,z0,z1,z2,z3,z4⟩:=At.ty (f:=⟨k2,m2,q2,s2,ya2,yn2,yc2⟩) (HA4.out.below hSw);simp only [Nat.zero_add] at z0 z1 z2 z3 z4;obtain ⟨-,w0a,w1a,w2a,w3a,w4a⟩:=HE2.out.below (jB HB.out hSw);go_simp;try first|rfl|simp [*])) hH ?_
      simp only [pb,pc]
      refine tz 3 77 (.bool true) hq rfl rfl hH ?_
      simp only [pb,pc]
      refine tz 4 78 (.pointer (some ⟨b3,1,none⟩)) hq rfl rfl hH ?_
      simp only [pb,pc]
      refine tq 5 79 (.bool false) hq rfl rfl (fun W hSw=>by (obtain ⟨c0,c12,c13,c14,c15,c63,c64,c65,c66,c67,c68,c69,c70,c71,c72,c73,c74,c75,c76,c77⟩:=HC.out _ (jB HB.out hSw);obtain ⟨-,y0,y1,y2,y3,y4⟩:=At.ty (f:=⟨4,false,q,0,some ⟨g2,off2,none⟩,1,yc⟩) (HA3.out.below hSw);simp only [Nat.zero_add] at y0 y1 y2 y3 y4;obtain ⟨-,z0,z1,z2,z3,z4⟩:=At.ty (f:=⟨k2,m2,q2,s2,ya2,yn2,yc2⟩) (HA4.out.below hSw);simp only [Nat.zero_add] at z0 z1 z2 z3 z4;obtain ⟨-,w0a,w1a,w2a,w3a,w4a⟩:=HE2.out.below (jB HB.out hSw);go_simp;try first|rfl|simp [*])) hH ?_
      simp only [pb,pc]
      refine tz 6 80 (.pointer (some ⟨b,0,none⟩)) hq rfl rfl hH ?_
      simp only [pb,pc]
      refine tz 7 81 (.pointer (some ⟨b,0,none⟩)) hq rfl rfl hH ?_
      simp only [pb,pc]
      refine tz 8 82 (.pointer (some ⟨b,0,none⟩)) hq rfl rfl hH ?_
      simp only [pb,pc]
      refine tz 9 83 (.pointer (some ⟨b,15,none⟩)) hq rfl rfl hH ?_
      simp only [pb,pc]
      refine tq 10 84 (.bool false) hq rfl rfl (fun W hSw=>by (obtain ⟨c0,c12,c13,c14,c15,c63,c64,c65,c66,c67,c68,c69,c70,c71,c72,c73,c74,c75,c76,c77⟩:=HC.out _ (jB HB.out hSw);obtain ⟨-,y0,y1,y2,y3,y4⟩:=At.ty (f:=⟨4,false,q,0,some ⟨g2,off2,none⟩,1,yc⟩) (HA3.out.below hSw);simp only [Nat.zero_add] at y0 y1 y2 y3 y4;obtain ⟨-,z0,z1,z2,z3,z4⟩:=At.ty (f:=⟨k2,m2,q2,s2,ya2,yn2,yc2⟩) (HA4.out.below hSw);simp only [Nat.zero_add] at z0 z1 z2 z3 z4;obtain ⟨-,w0a,w1a,w2a,w3a,w4a⟩:=HE2.out.below (jB HB.out hSw);go_simp;try first|rfl|simp [*])) hH ?_
      simp only [pb,pc]
      refine tq 11 85 (.bool true) hq rfl rfl (fun W hSw=>by (obtain ⟨c0,c12,c13,c14,c15,c63,c64,c65,c66,c67,c68,c69,c70,c71,c72,c73,c74,c75,c76,c77⟩:=HC.out _ (jB HB.out hSw);obtain ⟨-,y0,y1,y2,y3,y4⟩:=At.ty (f:=⟨4,false,q,0,some ⟨g2,off2,none⟩,1,yc⟩) (HA3.out.below hSw);simp only [Nat.zero_add] at y0 y1 y2 y3 y4;obtain ⟨-,z0,z1,z2,z3,z4⟩:=At.ty (f:=⟨k2,m2,q2,s2,ya2,yn2,yc2⟩) (HA4.out.below hSw);simp only [Nat.zero_add] at z0 z1 z2 z3 z4;obtain ⟨-,w0a,w1a,w2a,w3a,w4a⟩:=HE2.out.below (jB HB.out hSw);go_simp;try first|rfl|simp [*])) hH ?_
      simp only [pb,pc]
      refine tz 12 86 (.bool true) hq rfl rfl hH ?_
      simp only [pb,pc]
      refine tz 13 87 (.bool true) hq rfl rfl hH ?_
      simp only [pb,pc]
      refine tz 14 88 (.pointer (some ⟨b3,4,none⟩)) hq rfl rfl hH ?_
      simp only [pb,pc]
      refine tq 15 89 (.slice (some ⟨g2,off2,none⟩) 1 yc) hq rfl rfl (fun W hSw=>by (obtain ⟨c0,c12,c13,c14,c15,c63,c64,c65,c66,c67,c68,c69,c70,c71,c72,c73,c74,c75,c76,c77⟩:=HC.out _ (jB HB.out hSw);obtain ⟨-,y0,y1,y2,y3,y4⟩:=At.ty (f:=⟨4,false,q,0,some ⟨g2,off2,none⟩,1,yc⟩) (HA3.out.below hSw);simp only [Nat.zero_add] at y0 y1 y2 y3 y4;obtain ⟨-,z0,z1,z2,z3,z4⟩:=At.ty (f:=⟨k2,m2,q2,s2,ya2,yn2,yc2⟩) (HA4.out.below hSw);simp only [Nat.zero_add] at z0 z1 z2 z3 z4;obtain ⟨-,w0a,w1a,w2a,w3a,w4a⟩:=HE2.out.below (jB HB.out hSw);go_simp;try first|rfl|simp [*])) hH ?_
      simp only [pb,pc]
      refine tz 16 90 (.pointer (some ⟨g2,off2,none⟩)) hq rfl rfl hH ?_
      simp only [pb,pc]
      refine tq 17 91 (.agg #[.int .u8 (dk:Int),.bool dm,.int .i64 dr2,.int .i64 ds,.slice da dn dc]) hq rfl rfl (fun W hSw=>by (obtain ⟨c0,c12,c13,c14,c15,c63,c64,c65,c66,c67,c68,c69,c70,c71,c72,c73,c74,c75,c76,c77⟩:=HC.out _ (jB HB.out hSw);obtain ⟨-,y0,y1,y2,y3,y4⟩:=At.ty (f:=⟨4,false,q,0,some ⟨g2,off2,none⟩,1,yc⟩) (HA3.out.below hSw);simp only [Nat.zero_add] at y0 y1 y2 y3 y4;obtain ⟨-,z0,z1,z2,z3,z4⟩:=At.ty (f:=⟨k2,m2,q2,s2,ya2,yn2,yc2⟩) (HA4.out.below hSw);simp only [Nat.zero_add] at z0 z1 z2 z3 z4;obtain ⟨-,w0a,w1a,w2a,w3a,w4a⟩:=HE2.out.below (jB HB.out hSw);go_simp;try first|rfl|simp [*])) hH ?_
      simp only [pb,pc]
      refine tq 18 92 (.agg #[.int .u8 (k2:Int),.bool m2,.int .i64 q2,.int .i64 s2,.slice ya2 yn2 yc2]) hq rfl rfl (fun W hSw=>by (obtain ⟨c0,c12,c13,c14,c15,c63,c64,c65,c66,c67,c68,c69,c70,c71,c72,c73,c74,c75,c76,c77⟩:=HC.out _ (jB HB.out hSw);obtain ⟨-,y0,y1,y2,y3,y4⟩:=At.ty (f:=⟨4,false,q,0,some ⟨g2,off2,none⟩,1,yc⟩) (HA3.out.below hSw);simp only [Nat.zero_add] at y0 y1 y2 y3 y4;obtain ⟨-,z0,z1,z2,z3,z4⟩:=At.ty (f:=⟨k2,m2,q2,s2,ya2,yn2,yc2⟩) (HA4.out.below hSw);simp only [Nat.zero_add] at z0 z1 z2 z3 z4;obtain ⟨-,w0a,w1a,w2a,w3a,w4a⟩:=HE2.out.below (jB HB.out hSw);go_simp;try first|rfl|simp [*])) hH ?_
      simp only [pb,pc]
      refine aR1 19 rfl (fun K hK=>?_)
      go_simp
      refine (CA.out _ (jB HB.out (belN bR 1))).mono ?_
      rintro e v1 ⟨rfl,hb1⟩
      have hS1:Below wc.heap.size wc v1:=jB (belN bR 1) hb1
      go_wp2_with fail
      refine hK.out _ _ hS1 (fun hH=>?_)
      clear hK K
      try simp only [Act.put,List.setIfInBounds_toArray,pb,pc]
      have HS1:=jH hS1
      clear hb1 hS1
      refine tz 20 94 (.bool true) hq rfl rfl hH ?_
      simp only [pb,pc]
      refine tz 21 95 (.bool true) hq rfl rfl hH ?_
      simp only [pb,pc]
      refine tz 22 96 (.pointer (some ⟨b,0,none⟩)) hq rfl rfl hH ?_
      simp only [pb,pc]
      refine tz 23 97 (.pointer (some ⟨b,0,none⟩)) hq rfl rfl hH ?_
      simp only [pb,pc]
      refine tz 24 98 (.pointer (some ⟨b,0,none⟩)) hq rfl rfl hH ?_
      simp only [pb,pc]
      refine tz 25 99 (.pointer (some ⟨b,15,none⟩)) hq rfl rfl hH ?_
      simp only [pb,pc]
      refine tq 26 100 (.bool false) hq rfl rfl (fun W hSw=>by (obtain ⟨c0,c12,c13,c14,c15,c63,c64,c65,c66,c67,c68,c69,c70,c71,c72,c73,c74,c75,c76,c77⟩:=HC.out _ (jB HB.out hSw);obtain ⟨-,y0,y1,y2,y3,y4⟩:=At.ty (f:=⟨4,false,q,0,some ⟨g2,off2,none⟩,1,yc⟩) (HA3.out.below hSw);simp only [Nat.zero_add] at y0 y1 y2 y3 y4;obtain ⟨-,z0,z1,z2,z3,z4⟩:=At.ty (f:=⟨k2,m2,q2,s2,ya2,yn2,yc2⟩) (HA4.out.below hSw);simp only [Nat.zero_add] at z0 z1 z2 z3 z4;obtain ⟨-,w0a,w1a,w2a,w3a,w4a⟩:=HE2.out.below (jB HB.out hSw);go_simp;try first|rfl|simp [*])) hH ?_
      simp only [pb,pc]
      refine tz 27 101 (.bool false) hq rfl rfl hH ?_
      simp only [pb,pc]
      refine sq 28 102 hq rfl rfl hH ?_
      simp only [pb,pc]
      refine sq 29 103 hq rfl rfl hH ?_
      simp only [pb,pc]
      refine sq 30 104 hq rfl rfl hH ?_
      simp only [pb,pc]
      refine sq 31 105 hq rfl rfl hH ?_
      simp only [pb,pc]
      refine sq 32 106 hq rfl rfl hH ?_
      simp only [pb,pc]
      refine tz 33 107 (.bool false) hq rfl rfl hH ?_
      simp only [pb,pc]
      refine tq 34 108 (.bool true) hq rfl rfl (fun W hSw=>by (obtain ⟨c0,c12,c13,c14,c15,c63,c64,c65,c66,c67,c68,c69,c70,c71,c72,c73,c74,c75,c76,c77⟩:=HC.out _ (jB HB.out hSw);obtain ⟨-,y0,y1,y2,y3,y4⟩:=At.ty (f:=⟨4,false,q,0,some ⟨g2,off2,none⟩,1,yc⟩) (HA3.out.below hSw);simp only [Nat.zero_add] at y0 y1 y2 y3 y4;obtain ⟨-,z0,z1,z2,z3,z4⟩:=At.ty (f:=⟨k2,m2,q2,s2,ya2,yn2,yc2⟩) (HA4.out.below hSw);simp only [Nat.zero_add] at z0 z1 z2 z3 z4;obtain ⟨-,w0a,w1a,w2a,w3a,w4a⟩:=HE2.out.below (jB HB.out hSw);go_simp;try first|rfl|simp [*])) hH ?_
      simp only [pb,pc]
      refine tz 35 109 (.bool true) hq rfl rfl hH ?_
      simp only [pb,pc]
      refine tz 36 2 (.bool true) hq rfl rfl hH ?_
      simp only [pb,pc]
      refine wpAnyH_done (by kernel_rfl) ?_ _
      go_wp2_with fail
      go_ret
      exact ⟨rfl,jB HB.out HS1.out⟩
  | true =>
   as_aux_lemma =>
    have hr3:r=false:=by rw [hr2];cases a1 <;> rfl
    subst hr3
    clear hr2
    obtain ⟨c0,c12,c13,c14,c15,c63,c64,c65,c66,c67,c68,c69,c70,c71,c72,c73,c74,c75,c76,c77⟩:=HC.out _ bR
    go_enter Tryz.func178,Tryz.ntmps178
    go_upto_region 1 with fail
    go_cut [3,4] (fun v u V=>∃ b3 b4,v=.pointer (some ⟨b3,0,none⟩)∧u=.pointer (some ⟨b4,0,none⟩)∧At V b3 (tyO 4 false q 0 (some ⟨g2,off2,none⟩) 1 yc)∧At V b4 (tyO k2 m2 q2 s2 ya2 yn2 yc2)∧Below w.heap.size w V)
    case first =>
     go_big_region
     all_goals (go_wp2_with fail)
     all_goals (go_meet)
     all_goals first|exact ⟨_,_,rfl,rfl,((At.new _ _).alloc _).drew,(at_snd _ _ _).drew,(belA (belA bR)).drew⟩|exact ⟨_,_,rfl,rfl,(at_snd _ _ _).drew,((At.new _ _).alloc _).drew,(belA (belA bR)).drew⟩
    case rest =>
     obtain ⟨b3,b4,rfl,rfl,hA3,hA4,hB⟩:=hcut
     have HA3:=jH hA3
     have HA4:=jH hA4
     have HB:=jH hB
     clear hA3 hA4 hB
     clear c0 c12 c13 c14 c15 c63 c64 c65 c66 c67 c68 c69 c70 c71 c72 c73 c74 c75 c76 c77
     obtain ⟨c0,c12,c13,c14,c15,c63,c64,c65,c66,c67,c68,c69,c70,c71,c72,c73,c74,c75,c76,c77⟩:=HC.out _ HB.out
     go_upto_region 10 with fail
     clear c0 c12 c13 c14 c15 c63 c64 c65 c66 c67 c68 c69 c70 c71 c72 c73 c74 c75 c76 c77
     refine beginH (S:=fun V=>Below wc.heap.size wc V) (fun _ _ _ _ _ h=>h) (by kernel_rfl) (belN bR 1) (fun hq hH=>?_)
     refine tz 0 74 (.pointer (some ⟨b3,0,none⟩)) hq rfl rfl hH ?_
     simp only [pb,pc]
     refine tq 1 75 (.int .u8 4) hq rfl rfl (fun W hSw=>by (obtain ⟨c0,c12,c13,c14,c15,c63,c64,c65,c66,c67,c68,c69,c70,c71,c72,c73,c74,c75,c76,c77⟩:=HC.out _ (jB HB.out hSw);obtain ⟨-,y0,y1,y2,y3,y4⟩:=At.ty (f:=⟨4,false,q,0,some ⟨g2,off2,none⟩,1,yc⟩) (HA3.out.below hSw);simp only [Nat.zero_add] at y0 y1 y2 y3 y4;obtain ⟨-,z0,z1,z2,z3,z4⟩:=At.ty (f:=⟨k2,m2,q2,s2,ya2,yn2,yc2⟩) (HA4.out.below hSw);simp only [Nat.zero_add] at z0 z1 z2 z3 z4;obtain ⟨-,w0a,w1a,w2a,w3a,w4a⟩:=HE2.out.below (jB HB.out hSw);go_simp;try first|rfl|simp [*])) hH ?_
     simp only [pb,pc]
     refine tq 2 76 (.bool true) hq rfl rfl (fun W hSw=>by (obtain ⟨c0,c12,c13,c14,c15,c63,c64,c65,c66,c67,c68,c69,c70,c71,c72,c73,c74,c75,c76,c77⟩:=HC.out _ (jB HB.out hSw);obtain ⟨-,y0,y1,y2,y3,y4⟩:=At.ty (f:=⟨4,false,q,0,some ⟨g2,off2,none⟩,1,yc⟩) (HA3.out.below hSw);simp only [Nat.zero_add] at y0 y1 y2 y3 y4;obtain ⟨-,z0,z1,z2,z3,z4⟩:=At.ty (f:=⟨k2,m2,q2,s2,ya2,yn2,yc2⟩) (HA4.out.below hSw);simp only [Nat.zero_add] at z0 z1 z2 z3 z4;obtain ⟨-,w0a,w1a,w2a,w3a,w4a⟩:=HE2.out.below (jB HB.out hSw);go_simp;try first|rfl|simp [*])) hH ?_
     simp only [pb,pc]
     refine tz 3 77 (.bool true) hq rfl rfl hH ?_
     simp only [pb,pc]
     refine tz 4 78 (.pointer (some ⟨b3,1,none⟩)) hq rfl rfl hH ?_
     simp only [pb,pc]
     refine tq 5 79 (.bool false) hq rfl rfl (fun W hSw=>by (obtain ⟨c0,c12,c13,c14,c15,c63,c64,c65,c66,c67,c68,c69,c70,c71,c72,c73,c74,c75,c76,c77⟩:=HC.out _ (jB HB.out hSw);obtain ⟨-,y0,y1,y2,y3,y4⟩:=At.ty (f:=⟨4,false,q,0,some ⟨g2,off2,none⟩,1,yc⟩) (HA3.out.below hSw);simp only [Nat.zero_add] at y0 y1 y2 y3 y4;obtain ⟨-,z0,z1,z2,z3,z4⟩:=At.ty (f:=⟨k2,m2,q2,s2,ya2,yn2,yc2⟩) (HA4.out.below hSw);simp only [Nat.zero_add] at z0 z1 z2 z3 z4;obtain ⟨-,w0a,w1a,w2a,w3a,w4a⟩:=HE2.out.below (jB HB.out hSw);go_simp;try first|rfl|simp [*])) hH ?_
     simp only [pb,pc]
     refine tz 6 80 (.pointer (some ⟨b,0,none⟩)) hq rfl rfl hH ?_
     simp only [pb,pc]
     refine tz 7 81 (.pointer (some ⟨b,0,none⟩)) hq rfl rfl hH ?_
     simp only [pb,pc]
     refine tz 8 82 (.pointer (some ⟨b,0,none⟩)) hq rfl rfl hH ?_
     simp only [pb,pc]
     refine tz 9 83 (.pointer (some ⟨b,15,none⟩)) hq rfl rfl hH ?_
     simp only [pb,pc]
     refine tq 10 84 (.bool true) hq rfl rfl (fun W hSw=>by (obtain ⟨c0,c12,c13,c14,c15,c63,c64,c65,c66,c67,c68,c69,c70,c71,c72,c73,c74,c75,c76,c77⟩:=HC.out _ (jB HB.out hSw);obtain ⟨-,y0,y1,y2,y3,y4⟩:=At.ty (f:=⟨4,false,q,0,some ⟨g2,off2,none⟩,1,yc⟩) (HA3.out.below hSw);simp only [Nat.zero_add] at y0 y1 y2 y3 y4;obtain ⟨-,z0,z1,z2,z3,z4⟩:=At.ty (f:=⟨k2,m2,q2,s2,ya2,yn2,yc2⟩) (HA4.out.below hSw);simp only [Nat.zero_add] at z0 z1 z2 z3 z4;obtain ⟨-,w0a,w1a,w2a,w3a,w4a⟩:=HE2.out.below (jB HB.out hSw);go_simp;try first|rfl|simp [*])) hH ?_
     simp only [pb,pc]
     refine tq 11 85 (.bool false) hq rfl rfl (fun W hSw=>by (obtain ⟨c0,c12,c13,c14,c15,c63,c64,c65,c66,c67,c68,c69,c70,c71,c72,c73,c74,c75,c76,c77⟩:=HC.out _ (jB HB.out hSw);obtain ⟨-,y0,y1,y2,y3,y4⟩:=At.ty (f:=⟨4,false,q,0,some ⟨g2,off2,none⟩,1,yc⟩) (HA3.out.below hSw);simp only [Nat.zero_add] at y0 y1 y2 y3 y4;obtain ⟨-,z0,z1,z2,z3,z4⟩:=At.ty (f:=⟨k2,m2,q2,s2,ya2,yn2,yc2⟩) (HA4.out.below hSw);simp only [Nat.zero_add] at z0 z1 z2 z3 z4;obtain ⟨-,w0a,w1a,w2a,w3a,w4a⟩:=HE2.out.below (jB HB.out hSw);go_simp;try first|rfl|simp [*])) hH ?_
     simp only [pb,pc]
     refine tz 12 86 (.bool false) hq rfl rfl hH ?_
     simp only [pb,pc]
     refine tz 13 87 (.bool false) hq rfl rfl hH ?_
     simp only [pb,pc]
     refine sq 14 88 hq rfl rfl hH ?_
     simp only [pb,pc]
     refine sq 15 89 hq rfl rfl hH ?_
     simp only [pb,pc]
     refine sq 16 90 hq rfl rfl hH ?_
     simp only [pb,pc]
     refine sq 17 91 hq rfl rfl hH ?_
     simp only [pb,pc]
     refine sq 18 92 hq rfl rfl hH ?_
     simp only [pb,pc]
     refine sq 19 93 hq rfl rfl hH ?_
     simp only [pb,pc]
     refine tz 20 94 (.bool false) hq rfl rfl hH ?_
     simp only [pb,pc]
     refine tz 21 95 (.bool false) hq rfl rfl hH ?_
     simp only [pb,pc]
     refine sq 22 96 hq rfl rfl hH ?_
     simp only [pb,pc]
     refine sq 23 97 hq rfl rfl hH ?_
     simp only [pb,pc]
     refine sq 24 98 hq rfl rfl hH ?_
     simp only [pb,pc]
     refine sq 25 99 hq rfl rfl hH ?_
     simp only [pb,pc]
     refine sq 26 100 hq rfl rfl hH ?_
     simp only [pb,pc]
     refine sq 27 101 hq rfl rfl hH ?_
     simp only [pb,pc]
     refine sq 28 102 hq rfl rfl hH ?_
     simp only [pb,pc]
     refine sq 29 103 hq rfl rfl hH ?_
     simp only [pb,pc]
     refine sq 30 104 hq rfl rfl hH ?_
     simp only [pb,pc]
     refine sq 31 105 hq rfl rfl hH ?_
     simp only [pb,pc]
     refine sq 32 106 hq rfl rfl hH ?_
     simp only [pb,pc]
     refine sq 33 107 hq rfl rfl hH ?_
     simp only [pb,pc]
     refine sq 34 108 hq rfl rfl hH ?_
     simp only [pb,pc]
     refine tz 35 109 (.bool false) hq rfl rfl hH ?_
     simp only [pb,pc]
     refine tz 36 2 (.bool false) hq rfl rfl hH ?_
     simp only [pb,pc]
     refine wpAnyH_done (by kernel_rfl) ?_ _
     go_wp2_with fail
     go_ret
     exact ⟨rfl,belN HB.out _⟩
 | true =>
  cases mu with
  | false =>
   as_aux_lemma =>
    have hr3:r=false:=by rw [hr2];cases a1 <;> rfl
    subst hr3
    clear hr2
    obtain ⟨c0,c12,c13,c14,c15,c63,c64,c65,c66,c67,c68,c69,c70,c71,c72,c73,c74,c75,c76,c77⟩:=HC.out _ bR
    go_enter Tryz.func178,Tryz.ntmps178
    go_upto_region 1 with fail
    go_cut [3,4] (fun v u V=>∃ b3 b4,v=.pointer (some ⟨b3,0,none⟩)∧u=.pointer (some ⟨b4,0,none⟩)∧At V b3 (tyO 4 true q 0 (some ⟨g2,off2,none⟩) 1 yc)∧At V b4 (tyO k2 m2 q2 s2 ya2 yn2 yc2)∧Below w.heap.size w V)
    case first =>
     go_big_region
     all_goals (go_wp2_with fail)
     all_goals (go_meet)
     all_goals first|exact ⟨_,_,rfl,rfl,((At.new _ _).alloc _).drew,(at_snd _ _ _).drew,(belA (belA bR)).drew⟩|exact ⟨_,_,rfl,rfl,(at_snd _ _ _).drew,((At.new _ _).alloc _).drew,(belA (belA bR)).drew⟩
    case rest =>
     obtain ⟨b3,b4,rfl,rfl,hA3,hA4,hB⟩:=hcut
     have HA3:=jH hA3
     have HA4:=jH hA4
     have HB:=jH hB
     clear hA3 hA4 hB
     clear c0 c12 c13 c14 c15 c63 c64 c65 c66 c67 c68 c69 c70 c71 c72 c73 c74 c75 c76 c77
     obtain ⟨c0,c12,c13,c14,c15,c63,c64,c65,c66,c67,c68,c69,c70,c71,c72,c73,c74,c75,c76,c77⟩:=HC.out _ HB.out
     go_upto_region 10 with fail
     clear c0 c12 c13 c14 c15 c63 c64 c65 c66 c67 c68 c69 c70 c71 c72 c73 c74 c75 c76 c77
     refine beginH (S:=fun V=>Below wc.heap.size wc V) (fun _ _ _ _ _ h=>h) (by kernel_rfl) (belN bR 1) (fun hq hH=>?_)
     refine tz 0 74 (.pointer (some ⟨b3,0,none⟩)) hq rfl rfl hH ?_
     simp only [pb,pc]
     refine tq 1 75 (.int .u8 4) hq rfl rfl (fun W hSw=>by (obtain ⟨c0,c12,c13,c14,c15,c63,c64,c65,c66,c67,c68,c69,c70,c71,c72,c73,c74,c75,c76,c77⟩:=HC.out _ (jB HB.out hSw);obtain ⟨-,y0,y1,y2,y3,y4⟩:=At.ty (f:=⟨4,true,q,0,some ⟨g2,off2,none⟩,1,yc⟩) (HA3.out.below hSw);simp only [Nat.zero_add] at y0 y1 y2 y3 y4;obtain ⟨-,z0,z1,z2,z3,z4⟩:=At.ty (f:=⟨k2,m2,q2,s2,ya2,yn2,yc2⟩) (HA4.out.below hSw);simp only [Nat.zero_add] at z0 z1 z2 z3 z4;obtain ⟨-,w0a,w1a,w2a,w3a,w4a⟩:=HE2.out.below (jB HB.out hSw);go_simp;try first|rfl|simp [*])) hH ?_
     simp only [pb,pc]
     refine tq 2 76 (.bool true) hq rfl rfl (fun W hSw=>by (obtain ⟨c0,c12,c13,c14,c15,c63,c64,c65,c66,c67,c68,c69,c70,c71,c72,c73,c74,c75,c76,c77⟩:=HC.out _ (jB HB.out hSw);obtain ⟨-,y0,y1,y2,y3,y4⟩:=At.ty (f:=⟨4,true,q,0,some ⟨g2,off2,none⟩,1,yc⟩) (HA3.out.below hSw);simp only [Nat.zero_add] at y0 y1 y2 y3 y4;obtain ⟨-,z0,z1,z2,z3,z4⟩:=At.ty (f:=⟨k2,m2,q2,s2,ya2,yn2,yc2⟩) (HA4.out.below hSw);simp only [Nat.zero_add] at z0 z1 z2 z3 z4;obtain ⟨-,w0a,w1a,w2a,w3a,w4a⟩:=HE2.out.below (jB HB.out hSw);go_simp;try first|rfl|simp [*])) hH ?_
     simp only [pb,pc]
     refine tz 3 77 (.bool true) hq rfl rfl hH ?_
     simp only [pb,pc]
     refine tz 4 78 (.pointer (some ⟨b3,1,none⟩)) hq rfl rfl hH ?_
     simp only [pb,pc]
     refine tq 5 79 (.bool true) hq rfl rfl (fun W hSw=>by (obtain ⟨c0,c12,c13,c14,c15,c63,c64,c65,c66,c67,c68,c69,c70,c71,c72,c73,c74,c75,c76,c77⟩:=HC.out _ (jB HB.out hSw);obtain ⟨-,y0,y1,y2,y3,y4⟩:=At.ty (f:=⟨4,true,q,0,some ⟨g2,off2,none⟩,1,yc⟩) (HA3.out.below hSw);simp only [Nat.zero_add] at y0 y1 y2 y3 y4;obtain ⟨-,z0,z1,z2,z3,z4⟩:=At.ty (f:=⟨k2,m2,q2,s2,ya2,yn2,yc2⟩) (HA4.out.below hSw);simp only [Nat.zero_add] at z0 z1 z2 z3 z4;obtain ⟨-,w0a,w1a,w2a,w3a,w4a⟩:=HE2.out.below (jB HB.out hSw);go_simp;try first|rfl|simp [*])) hH ?_
     simp only [pb,pc]
     refine tz 6 80 (.pointer (some ⟨b,0,none⟩)) hq rfl rfl hH ?_
     simp only [pb,pc]
     refine tz 7 81 (.pointer (some ⟨b,0,none⟩)) hq rfl rfl hH ?_
     simp only [pb,pc]
     refine tz 8 82 (.pointer (some ⟨b,0,none⟩)) hq rfl rfl hH ?_
     simp only [pb,pc]
     refine tz 9 83 (.pointer (some ⟨b,15,none⟩)) hq rfl rfl hH ?_
     simp only [pb,pc]
     refine tq 10 84 (.bool false) hq rfl rfl (fun W hSw=>by (obtain ⟨c0,c12,c13,c14,c15,c63,c64,c65,c66,c67,c68,c69,c70,c71,c72,c73,c74,c75,c76,c77⟩:=HC.out _ (jB HB.out hSw);obtain ⟨-,y0,y1,y2,y3,y4⟩:=At.ty (f:=⟨4,true,q,0,some ⟨g2,off2,none⟩,1,yc⟩) (HA3.out.below hSw);simp only [Nat.zero_add] at y0 y1 y2 y3 y4;obtain ⟨-,z0,z1,z2,z3,z4⟩:=At.ty (f:=⟨k2,m2,q2,s2,ya2,yn2,yc2⟩) (HA4.out.below hSw);simp only [Nat.zero_add] at z0 z1 z2 z3 z4;obtain ⟨-,w0a,w1a,w2a,w3a,w4a⟩:=HE2.out.below (jB HB.out hSw);go_simp;try first|rfl|simp [*])) hH ?_
     simp only [pb,pc]
     refine tq 11 85 (.bool false) hq rfl rfl (fun W hSw=>by (obtain ⟨c0,c12,c13,c14,c15,c63,c64,c65,c66,c67,c68,c69,c70,c71,c72,c73,c74,c75,c76,c77⟩:=HC.out _ (jB HB.out hSw);obtain ⟨-,y0,y1,y2,y3,y4⟩:=At.ty (f:=⟨4,true,q,0,some ⟨g2,off2,none⟩,1,yc⟩) (HA3.out.below hSw);simp only [Nat.zero_add] at y0 y1 y2 y3 y4;obtain ⟨-,z0,z1,z2,z3,z4⟩:=At.ty (f:=⟨k2,m2,q2,s2,ya2,yn2,yc2⟩) (HA4.out.below hSw);simp only [Nat.zero_add] at z0 z1 z2 z3 z4;obtain ⟨-,w0a,w1a,w2a,w3a,w4a⟩:=HE2.out.below (jB HB.out hSw);go_simp;try first|rfl|simp [*])) hH ?_
     simp only [pb,pc]
     refine tz 12 86 (.bool false) hq rfl rfl hH ?_
     simp only [pb,pc]
     refine tz 13 87 (.bool false) hq rfl rfl hH ?_
     simp only [pb,pc]
     refine sq 14 88 hq rfl rfl hH ?_
     simp only [pb,pc]
     refine sq 15 89 hq rfl rfl hH ?_
     simp only [pb,pc]
     refine sq 16 90 hq rfl rfl hH ?_
     simp only [pb,pc]
     refine sq 17 91 hq rfl rfl hH ?_
     simp only [pb,pc]
     refine sq 18 92 hq rfl rfl hH ?_
     simp only [pb,pc]
     refine sq 19 93 hq rfl rfl hH ?_
     simp only [pb,pc]
     refine tz 20 94 (.bool false) hq rfl rfl hH ?_
     simp only [pb,pc]
     refine tz 21 95 (.bool false) hq rfl rfl hH ?_
     simp only [pb,pc]
     refine sq 22 96 hq rfl rfl hH ?_
     simp only [pb,pc]
     refine sq 23 97 hq rfl rfl hH ?_
     simp only [pb,pc]
     refine sq 24 98 hq rfl rfl hH ?_
     simp only [pb,pc]
     refine sq 25 99 hq rfl rfl hH ?_
     simp only [pb,pc]
     refine sq 26 100 hq rfl rfl hH ?_
     simp only [pb,pc]
     refine sq 27 101 hq rfl rfl hH ?_
     simp only [pb,pc]
     refine sq 28 102 hq rfl rfl hH ?_
     simp only [pb,pc]
     refine sq 29 103 hq rfl rfl hH ?_
     simp only [pb,pc]
     refine sq 30 104 hq rfl rfl hH ?_
     simp only [pb,pc]
     refine sq 31 105 hq rfl rfl hH ?_
     simp only [pb,pc]
     refine sq 32 106 hq rfl rfl hH ?_
     simp only [pb,pc]
     refine sq 33 107 hq rfl rfl hH ?_
     simp only [pb,pc]
     refine sq 34 108 hq rfl rfl hH ?_
     simp only [pb,pc]
     refine tz 35 109 (.bool false) hq rfl rfl hH ?_
     simp only [pb,pc]
     refine tz 36 2 (.bool false) hq rfl rfl hH ?_
     simp only [pb,pc]
     refine wpAnyH_done (by kernel_rfl) ?_ _
     go_wp2_with fail
     go_ret
     exact ⟨rfl,belN HB.out _⟩
  | true =>
   cases a1 with
   | false =>
    as_aux_lemma =>
     have hr3:r=false:=by rw [hr2];rfl
     subst hr3
     clear hr2
     obtain ⟨c0,c12,c13,c14,c15,c63,c64,c65,c66,c67,c68,c69,c70,c71,c72,c73,c74,c75,c76,c77⟩:=HC.out _ bR
     go_enter Tryz.func178,Tryz.ntmps178
     go_upto_region 1 with fail
     go_cut [3,4] (fun v u V=>∃ b3 b4,v=.pointer (some ⟨b3,0,none⟩)∧u=.pointer (some ⟨b4,0,none⟩)∧At V b3 (tyO 4 true q 0 (some ⟨g2,off2,none⟩) 1 yc)∧At V b4 (tyO k2 m2 q2 s2 ya2 yn2 yc2)∧Below w.heap.size w V)
     case first =>
      go_big_region
      all_goals (go_wp2_with fail)
      all_goals (go_meet)
      all_goals first|exact ⟨_,_,rfl,rfl,((At.new _ _).alloc _).drew,(at_snd _ _ _).drew,(belA (belA bR)).drew⟩|exact ⟨_,_,rfl,rfl,(at_snd _ _ _).drew,((At.new _ _).alloc _).drew,(belA (belA bR)).drew⟩
     case rest =>
      obtain ⟨b3,b4,rfl,rfl,hA3,hA4,hB⟩:=hcut
      have HA3:=jH hA3
      have HA4:=jH hA4
      have HB:=jH hB
      clear hA3 hA4 hB
      clear c0 c12 c13 c14 c15 c63 c64 c65 c66 c67 c68 c69 c70 c71 c72 c73 c74 c75 c76 c77
      obtain ⟨c0,c12,c13,c14,c15,c63,c64,c65,c66,c67,c68,c69,c70,c71,c72,c73,c74,c75,c76,c77⟩:=HC.out _ HB.out
      go_upto_region 10 with fail
      clear c0 c12 c13 c14 c15 c63 c64 c65 c66 c67 c68 c69 c70 c71 c72 c73 c74 c75 c76 c77
      refine beginH (S:=fun V=>Below wc.heap.size wc V) (fun _ _ _ _ _ h=>h) (by kernel_rfl) (belN bR 1) (fun hq hH=>?_)
      refine tz 0 74 (.pointer (some ⟨b3,0,none⟩)) hq rfl rfl hH ?_
      simp only [pb,pc]
      refine tq 1 75 (.int .u8 4) hq rfl rfl (fun W hSw=>by (obtain ⟨c0,c12,c13,c14,c15,c63,c64,c65,c66,c67,c68,c69,c70,c71,c72,c73,c74,c75,c76,c77⟩:=HC.out _ (jB HB.out hSw);obtain ⟨-,y0,y1,y2,y3,y4⟩:=At.ty (f:=⟨4,true,q,0,some ⟨g2,off2,none⟩,1,yc⟩) (HA3.out.below hSw);simp only [Nat.zero_add] at y0 y1 y2 y3 y4;obtain ⟨-,z0,z1,z2,z3,z4⟩:=At.ty (f:=⟨k2,m2,q2,s2,ya2,yn2,yc2⟩) (HA4.out.below hSw);simp only [Nat.zero_add] at z0 z1 z2 z3 z4;obtain ⟨-,w0a,w1a,w2a,w3a,w4a⟩:=HE2.out.below (jB HB.out hSw);go_simp;try first|rfl|simp [*])) hH ?_
      simp only [pb,pc]
      refine tq 2 76 (.bool true) hq rfl rfl (fun W hSw=>by (obtain ⟨c0,c12,c13,c14,c15,c63,c64,c65,c66,c67,c68,c69,c70,c71,c72,c73,c74,c75,c76,c77⟩:=HC.out _ (jB HB.out hSw);obtain ⟨-,y0,y1,y2,y3,y4⟩:=At.ty (f:=⟨4,true,q,0,some ⟨g2,off2,none⟩,1,yc⟩) (HA3.out.below hSw);simp only [Nat.zero_add] at y0 y1 y2 y3 y4;obtain ⟨-,z0,z1,z2,z3,z4⟩:=At.ty (f:=⟨k2,m2,q2,s2,ya2,yn2,yc2⟩) (HA4.out.below hSw);simp only [Nat.zero_add] at z0 z1 z2 z3 z4;obtain ⟨-,w0a,w1a,w2a,w3a,w4a⟩:=HE2.out.below (jB HB.out hSw);go_simp;try first|rfl|simp [*])) hH ?_
      simp only [pb,pc]
      refine tz 3 77 (.bool true) hq rfl rfl hH ?_
      simp only [pb,pc]
      refine tz 4 78 (.pointer (some ⟨b3,1,none⟩)) hq rfl rfl hH ?_
      simp only [pb,pc]
      refine tq 5 79 (.bool true) hq rfl rfl (fun W hSw=>by (obtain ⟨c0,c12,c13,c14,c15,c63,c64,c65,c66,c67,c68,c69,c70,c71,c72,c73,c74,c75,c76,c77⟩:=HC.out _ (jB HB.out hSw);obtain ⟨-,y0,y1,y2,y3,y4⟩:=At.ty (f:=⟨4,true,q,0,some ⟨g2,off2,none⟩,1,yc⟩) (HA3.out.below hSw);simp only [Nat.zero_add] at y0 y1 y2 y3 y4;obtain ⟨-,z0,z1,z2,z3,z4⟩:=At.ty (f:=⟨k2,m2,q2,s2,ya2,yn2,yc2⟩) (HA4.out.below hSw);simp only [Nat.zero_add] at z0 z1 z2 z3 z4;obtain ⟨-,w0a,w1a,w2a,w3a,w4a⟩:=HE2.out.below (jB HB.out hSw);go_simp;try first|rfl|simp [*])) hH ?_
      simp only [pb,pc]
      refine tz 6 80 (.pointer (some ⟨b,0,none⟩)) hq rfl rfl hH ?_
      simp only [pb,pc]
      refine tz 7 81 (.pointer (some ⟨b,0,none⟩)) hq rfl rfl hH ?_
      simp only [pb,pc]
      refine tz 8 82 (.pointer (some ⟨b,0,none⟩)) hq rfl rfl hH ?_
      simp only [pb,pc]
      refine tz 9 83 (.pointer (some ⟨b,15,none⟩)) hq rfl rfl hH ?_
      simp only [pb,pc]
      refine tq 10 84 (.bool true) hq rfl rfl (fun W hSw=>by (obtain ⟨c0,c12,c13,c14,c15,c63,c64,c65,c66,c67,c68,c69,c70,c71,c72,c73,c74,c75,c76,c77⟩:=HC.out _ (jB HB.out hSw);obtain ⟨-,y0,y1,y2,y3,y4⟩:=At.ty (f:=⟨4,true,q,0,some ⟨g2,off2,none⟩,1,yc⟩) (HA3.out.below hSw);simp only [Nat.zero_add] at y0 y1 y2 y3 y4;obtain ⟨-,z0,z1,z2,z3,z4⟩:=At.ty (f:=⟨k2,m2,q2,s2,ya2,yn2,yc2⟩) (HA4.out.below hSw);simp only [Nat.zero_add] at z0 z1 z2 z3 z4;obtain ⟨-,w0a,w1a,w2a,w3a,w4a⟩:=HE2.out.below (jB HB.out hSw);go_simp;try first|rfl|simp [*])) hH ?_
      simp only [pb,pc]
      refine tq 11 85 (.bool true) hq rfl rfl (fun W hSw=>by (obtain ⟨c0,c12,c13,c14,c15,c63,c64,c65,c66,c67,c68,c69,c70,c71,c72,c73,c74,c75,c76,c77⟩:=HC.out _ (jB HB.out hSw);obtain ⟨-,y0,y1,y2,y3,y4⟩:=At.ty (f:=⟨4,true,q,0,some ⟨g2,off2,none⟩,1,yc⟩) (HA3.out.below hSw);simp only [Nat.zero_add] at y0 y1 y2 y3 y4;obtain ⟨-,z0,z1,z2,z3,z4⟩:=At.ty (f:=⟨k2,m2,q2,s2,ya2,yn2,yc2⟩) (HA4.out.below hSw);simp only [Nat.zero_add] at z0 z1 z2 z3 z4;obtain ⟨-,w0a,w1a,w2a,w3a,w4a⟩:=HE2.out.below (jB HB.out hSw);go_simp;try first|rfl|simp [*])) hH ?_
      simp only [pb,pc]
      refine tz 12 86 (.bool true) hq rfl rfl hH ?_
      simp only [pb,pc]
      refine tz 13 87 (.bool true) hq rfl rfl hH ?_
      simp only [pb,pc]
      refine tz 14 88 (.pointer (some ⟨b3,4,none⟩)) hq rfl rfl hH ?_
      simp only [pb,pc]
      refine tq 15 89 (.slice (some ⟨g2,off2,none⟩) 1 yc) hq rfl rfl (fun W hSw=>by (obtain ⟨c0,c12,c13,c14,c15,c63,c64,c65,c66,c67,c68,c69,c70,c71,c72,c73,c74,c75,c76,c77⟩:=HC.out _ (jB HB.out hSw);obtain ⟨-,y0,y1,y2,y3,y4⟩:=At.ty (f:=⟨4,true,q,0,some ⟨g2,off2,none⟩,1,yc⟩) (HA3.out.below hSw);simp only [Nat.zero_add] at y0 y1 y2 y3 y4;obtain ⟨-,z0,z1,z2,z3,z4⟩:=At.ty (f:=⟨k2,m2,q2,s2,ya2,yn2,yc2⟩) (HA4.out.below hSw);simp only [Nat.zero_add] at z0 z1 z2 z3 z4;obtain ⟨-,w0a,w1a,w2a,w3a,w4a⟩:=HE2.out.below (jB HB.out hSw);go_simp;try first|rfl|simp [*])) hH ?_
      simp only [pb,pc]
      refine tz 16 90 (.pointer (some ⟨g2,off2,none⟩)) hq rfl rfl hH ?_
      simp only [pb,pc]
      refine tq 17 91 (.agg #[.int .u8 (dk:Int),.bool dm,.int .i64 dr2,.int .i64 ds,.slice da dn dc]) hq rfl rfl (fun W hSw=>by (obtain ⟨c0,c12,c13,c14,c15,c63,c64,c65,c66,c67,c68,c69,c70,c71,c72,c73,c74,c75,c76,c77⟩:=HC.out _ (jB HB.out hSw);obtain ⟨-,y0,y1,y2,y3,y4⟩:=At.ty (f:=⟨4,true,q,0,some ⟨g2,off2,none⟩,1,yc⟩) (HA3.out.below hSw);simp only [Nat.zero_add] at y0 y1 y2 y3 y4;obtain ⟨-,z0,z1,z2,z3,z4⟩:=At.ty (f:=⟨k2,m2,q2,s2,ya2,yn2,yc2⟩) (HA4.out.below hSw);simp only [Nat.zero_add] at z0 z1 z2 z3 z4;obtain ⟨-,w0a,w1a,w2a,w3a,w4a⟩:=HE2.out.below (jB HB.out hSw);go_simp;try first|rfl|simp [*])) hH ?_
      simp only [pb,pc]
      refine tq 18 92 (.agg #[.int .u8 (k2:Int),.bool m2,.int .i64 q2,.int .i64 s2,.slice ya2 yn2 yc2]) hq rfl rfl (fun W hSw=>by (obtain ⟨c0,c12,c13,c14,c15,c63,c64,c65,c66,c67,c68,c69,c70,c71,c72,c73,c74,c75,c76,c77⟩:=HC.out _ (jB HB.out hSw);obtain ⟨-,y0,y1,y2,y3,y4⟩:=At.ty (f:=⟨4,true,q,0,some ⟨g2,off2,none⟩,1,yc⟩) (HA3.out.below hSw);simp only [Nat.zero_add] at y0 y1 y2 y3 y4;obtain ⟨-,z0,z1,z2,z3,z4⟩:=At.ty (f:=⟨k2,m2,q2,s2,ya2,yn2,yc2⟩) (HA4.out.below hSw);simp only [Nat.zero_add] at z0 z1 z2 z3 z4;obtain ⟨-,w0a,w1a,w2a,w3a,w4a⟩:=HE2.out.below (jB HB.out hSw);go_simp;try first|rfl|simp [*])) hH ?_
      simp only [pb,pc]
      refine aR1 19 rfl (fun K hK=>?_)
      go_simp
      refine (CA.out _ (jB HB.out (belN bR 1))).mono ?_
      rintro e v1 ⟨rfl,hb1⟩
      have hS1:Below wc.heap.size wc v1:=jB (belN bR 1) hb1
      go_wp2_with fail
      refine hK.out _ _ hS1 (fun hH=>?_)
      clear hK K
      try simp only [Act.put,List.setIfInBounds_toArray,pb,pc]
      have HS1:=jH hS1
      clear hb1 hS1
      refine tz 20 94 (.bool false) hq rfl rfl hH ?_
      simp only [pb,pc]
      refine tz 21 95 (.bool false) hq rfl rfl hH ?_
      simp only [pb,pc]
      refine sq 22 96 hq rfl rfl hH ?_
      simp only [pb,pc]
      refine sq 23 97 hq rfl rfl hH ?_
      simp only [pb,pc]
      refine sq 24 98 hq rfl rfl hH ?_
      simp only [pb,pc]
      refine sq 25 99 hq rfl rfl hH ?_
      simp only [pb,pc]
      refine sq 26 100 hq rfl rfl hH ?_
      simp only [pb,pc]
      refine sq 27 101 hq rfl rfl hH ?_
      simp only [pb,pc]
      refine sq 28 102 hq rfl rfl hH ?_
      simp only [pb,pc]
      refine sq 29 103 hq rfl rfl hH ?_
      simp only [pb,pc]
      refine sq 30 104 hq rfl rfl hH ?_
      simp only [pb,pc]
      refine sq 31 105 hq rfl rfl hH ?_
      simp only [pb,pc]
      refine sq 32 106 hq rfl rfl hH ?_
      simp only [pb,pc]
      refine sq 33 107 hq rfl rfl hH ?_
      simp only [pb,pc]
      refine sq 34 108 hq rfl rfl hH ?_
      simp only [pb,pc]
      refine tz 35 109 (.bool false) hq rfl rfl hH ?_
      simp only [pb,pc]
      refine tz 36 2 (.bool false) hq rfl rfl hH ?_
      simp only [pb,pc]
      refine wpAnyH_done (by kernel_rfl) ?_ _
      go_wp2_with fail
      go_ret
      exact ⟨rfl,jB HB.out HS1.out⟩
   | true =>
    cases fbs with
    | false =>
     as_aux_lemma =>
      have hr3:r=true:=by rw [hr2];rfl
      subst hr3
      clear hr2
      obtain ⟨c0,c12,c13,c14,c15,c63,c64,c65,c66,c67,c68,c69,c70,c71,c72,c73,c74,c75,c76,c77⟩:=HC.out _ bR
      go_enter Tryz.func178,Tryz.ntmps178
      go_upto_region 1 with fail
      go_cut [3,4] (fun v u V=>∃ b3 b4,v=.pointer (some ⟨b3,0,none⟩)∧u=.pointer (some ⟨b4,0,none⟩)∧At V b3 (tyO 4 true q 0 (some ⟨g2,off2,none⟩) 1 yc)∧At V b4 (tyO k2 m2 q2 s2 ya2 yn2 yc2)∧Below w.heap.size w V)
      case first =>
       go_big_region
       all_goals (go_wp2_with fail)
       all_goals (go_meet)
       all_goals first|exact ⟨_,_,rfl,rfl,((At.new _ _).alloc _).drew,(at_snd _ _ _).drew,(belA (belA bR)).drew⟩|exact ⟨_,_,rfl,rfl,(at_snd _ _ _).drew,((At.new _ _).alloc _).drew,(belA (belA bR)).drew⟩
      case rest =>
       obtain ⟨b3,b4,rfl,rfl,hA3,hA4,hB⟩:=hcut
       have HA3:=jH hA3
       have HA4:=jH hA4
       have HB:=jH hB
       clear hA3 hA4 hB
       clear c0 c12 c13 c14 c15 c63 c64 c65 c66 c67 c68 c69 c70 c71 c72 c73 c74 c75 c76 c77
       obtain ⟨c0,c12,c13,c14,c15,c63,c64,c65,c66,c67,c68,c69,c70,c71,c72,c73,c74,c75,c76,c77⟩:=HC.out _ HB.out
       go_upto_region 10 with fail
       clear c0 c12 c13 c14 c15 c63 c64 c65 c66 c67 c68 c69 c70 c71 c72 c73 c74 c75 c76 c77
       refine beginH (S:=fun V=>Below wc.heap.size wc V) (fun _ _ _ _ _ h=>h) (by kernel_rfl) (belN bR 1) (fun hq hH=>?_)
       refine tz 0 74 (.pointer (some ⟨b3,0,none⟩)) hq rfl rfl hH ?_
       simp only [pb,pc]
       refine tq 1 75 (.int .u8 4) hq rfl rfl (fun W hSw=>by (obtain ⟨c0,c12,c13,c14,c15,c63,c64,c65,c66,c67,c68,c69,c70,c71,c72,c73,c74,c75,c76,c77⟩:=HC.out _ (jB HB.out hSw);obtain ⟨-,y0,y1,y2,y3,y4⟩:=At.ty (f:=⟨4,true,q,0,some ⟨g2,off2,none⟩,1,yc⟩) (HA3.out.below hSw);simp only [Nat.zero_add] at y0 y1 y2 y3 y4;obtain ⟨-,z0,z1,z2,z3,z4⟩:=At.ty (f:=⟨k2,m2,q2,s2,ya2,yn2,yc2⟩) (HA4.out.below hSw);simp only [Nat.zero_add] at z0 z1 z2 z3 z4;obtain ⟨-,w0a,w1a,w2a,w3a,w4a⟩:=HE2.out.below (jB HB.out hSw);go_simp;try first|rfl|simp [*])) hH ?_
       simp only [pb,pc]
       refine tq 2 76 (.bool true) hq rfl rfl (fun W hSw=>by (obtain ⟨c0,c12,c13,c14,c15,c63,c64,c65,c66,c67,c68,c69,c70,c71,c72,c73,c74,c75,c76,c77⟩:=HC.out _ (jB HB.out hSw);obtain ⟨-,y0,y1,y2,y3,y4⟩:=At.ty (f:=⟨4,true,q,0,some ⟨g2,off2,none⟩,1,yc⟩) (HA3.out.below hSw);simp only [Nat.zero_add] at y0 y1 y2 y3 y4;obtain ⟨-,z0,z1,z2,z3,z4⟩:=At.ty (f:=⟨k2,m2,q2,s2,ya2,yn2,yc2⟩) (HA4.out.below hSw);simp only [Nat.zero_add] at z0 z1 z2 z3 z4;obtain ⟨-,w0a,w1a,w2a,w3a,w4a⟩:=HE2.out.below (jB HB.out hSw);go_simp;try first|rfl|simp [*])) hH ?_
       simp only [pb,pc]
       refine tz 3 77 (.bool true) hq rfl rfl hH ?_
       simp only [pb,pc]
       refine tz 4 78 (.pointer (some ⟨b3,1,none⟩)) hq rfl rfl hH ?_
       simp only [pb,pc]
       refine tq 5 79 (.bool true) hq rfl rfl (fun W hSw=>by (obtain ⟨c0,c12,c13,c14,c15,c63,c64,c65,c66,c67,c68,c69,c70,c71,c72,c73,c74,c75,c76,c77⟩:=HC.out _ (jB HB.out hSw);obtain ⟨-,y0,y1,y2,y3,y4⟩:=At.ty (f:=⟨4,true,q,0,some ⟨g2,off2,none⟩,1,yc⟩) (HA3.out.below hSw);simp only [Nat.zero_add] at y0 y1 y2 y3 y4;obtain ⟨-,z0,z1,z2,z3,z4⟩:=At.ty (f:=⟨k2,m2,q2,s2,ya2,yn2,yc2⟩) (HA4.out.below hSw);simp only [Nat.zero_add] at z0 z1 z2 z3 z4;obtain ⟨-,w0a,w1a,w2a,w3a,w4a⟩:=HE2.out.below (jB HB.out hSw);go_simp;try first|rfl|simp [*])) hH ?_
       simp only [pb,pc]
       refine tz 6 80 (.pointer (some ⟨b,0,none⟩)) hq rfl rfl hH ?_
       simp only [pb,pc]
       refine tz 7 81 (.pointer (some ⟨b,0,none⟩)) hq rfl rfl hH ?_
       simp only [pb,pc]
       refine tz 8 82 (.pointer (some ⟨b,0,none⟩)) hq rfl rfl hH ?_
       simp only [pb,pc]
       refine tz 9 83 (.pointer (some ⟨b,15,none⟩)) hq rfl rfl hH ?_
       simp only [pb,pc]
       refine tq 10 84 (.bool true) hq rfl rfl (fun W hSw=>by (obtain ⟨c0,c12,c13,c14,c15,c63,c64,c65,c66,c67,c68,c69,c70,c71,c72,c73,c74,c75,c76,c77⟩:=HC.out _ (jB HB.out hSw);obtain ⟨-,y0,y1,y2,y3,y4⟩:=At.ty (f:=⟨4,true,q,0,some ⟨g2,off2,none⟩,1,yc⟩) (HA3.out.below hSw);simp only [Nat.zero_add] at y0 y1 y2 y3 y4;obtain ⟨-,z0,z1,z2,z3,z4⟩:=At.ty (f:=⟨k2,m2,q2,s2,ya2,yn2,yc2⟩) (HA4.out.below hSw);simp only [Nat.zero_add] at z0 z1 z2 z3 z4;obtain ⟨-,w0a,w1a,w2a,w3a,w4a⟩:=HE2.out.below (jB HB.out hSw);go_simp;try first|rfl|simp [*])) hH ?_
       simp only [pb,pc]
       refine tq 11 85 (.bool true) hq rfl rfl (fun W hSw=>by (obtain ⟨c0,c12,c13,c14,c15,c63,c64,c65,c66,c67,c68,c69,c70,c71,c72,c73,c74,c75,c76,c77⟩:=HC.out _ (jB HB.out hSw);obtain ⟨-,y0,y1,y2,y3,y4⟩:=At.ty (f:=⟨4,true,q,0,some ⟨g2,off2,none⟩,1,yc⟩) (HA3.out.below hSw);simp only [Nat.zero_add] at y0 y1 y2 y3 y4;obtain ⟨-,z0,z1,z2,z3,z4⟩:=At.ty (f:=⟨k2,m2,q2,s2,ya2,yn2,yc2⟩) (HA4.out.below hSw);simp only [Nat.zero_add] at z0 z1 z2 z3 z4;obtain ⟨-,w0a,w1a,w2a,w3a,w4a⟩:=HE2.out.below (jB HB.out hSw);go_simp;try first|rfl|simp [*])) hH ?_
       simp only [pb,pc]
       refine tz 12 86 (.bool true) hq rfl rfl hH ?_
       simp only [pb,pc]
       refine tz 13 87 (.bool true) hq rfl rfl hH ?_
       simp only [pb,pc]
       refine tz 14 88 (.pointer (some ⟨b3,4,none⟩)) hq rfl rfl hH ?_
       simp only [pb,pc]
       refine tq 15 89 (.slice (some ⟨g2,off2,none⟩) 1 yc) hq rfl rfl (fun W hSw=>by (obtain ⟨c0,c12,c13,c14,c15,c63,c64,c65,c66,c67,c68,c69,c70,c71,c72,c73,c74,c75,c76,c77⟩:=HC.out _ (jB HB.out hSw);obtain ⟨-,y0,y1,y2,y3,y4⟩:=At.ty (f:=⟨4,true,q,0,some ⟨g2,off2,none⟩,1,yc⟩) (HA3.out.below hSw);simp only [Nat.zero_add] at y0 y1 y2 y3 y4;obtain ⟨-,z0,z1,z2,z3,z4⟩:=At.ty (f:=⟨k2,m2,q2,s2,ya2,yn2,yc2⟩) (HA4.out.below hSw);simp only [Nat.zero_add] at z0 z1 z2 z3 z4;obtain ⟨-,w0a,w1a,w2a,w3a,w4a⟩:=HE2.out.below (jB HB.out hSw);go_simp;try first|rfl|simp [*])) hH ?_
       simp only [pb,pc]
       refine tz 16 90 (.pointer (some ⟨g2,off2,none⟩)) hq rfl rfl hH ?_
       simp only [pb,pc]
       refine tq 17 91 (.agg #[.int .u8 (dk:Int),.bool dm,.int .i64 dr2,.int .i64 ds,.slice da dn dc]) hq rfl rfl (fun W hSw=>by (obtain ⟨c0,c12,c13,c14,c15,c63,c64,c65,c66,c67,c68,c69,c70,c71,c72,c73,c74,c75,c76,c77⟩:=HC.out _ (jB HB.out hSw);obtain ⟨-,y0,y1,y2,y3,y4⟩:=At.ty (f:=⟨4,true,q,0,some ⟨g2,off2,none⟩,1,yc⟩) (HA3.out.below hSw);simp only [Nat.zero_add] at y0 y1 y2 y3 y4;obtain ⟨-,z0,z1,z2,z3,z4⟩:=At.ty (f:=⟨k2,m2,q2,s2,ya2,yn2,yc2⟩) (HA4.out.below hSw);simp only [Nat.zero_add] at z0 z1 z2 z3 z4;obtain ⟨-,w0a,w1a,w2a,w3a,w4a⟩:=HE2.out.below (jB HB.out hSw);go_simp;try first|rfl|simp [*])) hH ?_
       simp only [pb,pc]
       refine tq 18 92 (.agg #[.int .u8 (k2:Int),.bool m2,.int .i64 q2,.int .i64 s2,.slice ya2 yn2 yc2]) hq rfl rfl (fun W hSw=>by (obtain ⟨c0,c12,c13,c14,c15,c63,c64,c65,c66,c67,c68,c69,c70,c71,c72,c73,c74,c75,c76,c77⟩:=HC.out _ (jB HB.out hSw);obtain ⟨-,y0,y1,y2,y3,y4⟩:=At.ty (f:=⟨4,true,q,0,some ⟨g2,off2,none⟩,1,yc⟩) (HA3.out.below hSw);simp only [Nat.zero_add] at y0 y1 y2 y3 y4;obtain ⟨-,z0,z1,z2,z3,z4⟩:=At.ty (f:=⟨k2,m2,q2,s2,ya2,yn2,yc2⟩) (HA4.out.below hSw);simp only [Nat.zero_add] at z0 z1 z2 z3 z4;obtain ⟨-,w0a,w1a,w2a,w3a,w4a⟩:=HE2.out.below (jB HB.out hSw);go_simp;try first|rfl|simp [*])) hH ?_
       simp only [pb,pc]
       refine aR1 19 rfl (fun K hK=>?_)
       go_simp
       refine (CA.out _ (jB HB.out (belN bR 1))).mono ?_
       rintro e v1 ⟨rfl,hb1⟩
       have hS1:Below wc.heap.size wc v1:=jB (belN bR 1) hb1
       go_wp2_with fail
       refine hK.out _ _ hS1 (fun hH=>?_)
       clear hK K
       try simp only [Act.put,List.setIfInBounds_toArray,pb,pc]
       have HS1:=jH hS1
       clear hb1 hS1
       refine tz 20 94 (.bool true) hq rfl rfl hH ?_
       simp only [pb,pc]
       refine tz 21 95 (.bool true) hq rfl rfl hH ?_
       simp only [pb,pc]
       refine tz 22 96 (.pointer (some ⟨b,0,none⟩)) hq rfl rfl hH ?_
       simp only [pb,pc]
       refine tz 23 97 (.pointer (some ⟨b,0,none⟩)) hq rfl rfl hH ?_
       simp only [pb,pc]
       refine tz 24 98 (.pointer (some ⟨b,0,none⟩)) hq rfl rfl hH ?_
       simp only [pb,pc]
       refine tz 25 99 (.pointer (some ⟨b,15,none⟩)) hq rfl rfl hH ?_
       simp only [pb,pc]
       refine tq 26 100 (.bool true) hq rfl rfl (fun W hSw=>by (obtain ⟨c0,c12,c13,c14,c15,c63,c64,c65,c66,c67,c68,c69,c70,c71,c72,c73,c74,c75,c76,c77⟩:=HC.out _ (jB HB.out hSw);obtain ⟨-,y0,y1,y2,y3,y4⟩:=At.ty (f:=⟨4,true,q,0,some ⟨g2,off2,none⟩,1,yc⟩) (HA3.out.below hSw);simp only [Nat.zero_add] at y0 y1 y2 y3 y4;obtain ⟨-,z0,z1,z2,z3,z4⟩:=At.ty (f:=⟨k2,m2,q2,s2,ya2,yn2,yc2⟩) (HA4.out.below hSw);simp only [Nat.zero_add] at z0 z1 z2 z3 z4;obtain ⟨-,w0a,w1a,w2a,w3a,w4a⟩:=HE2.out.below (jB HB.out hSw);go_simp;try first|rfl|simp [*])) hH ?_
       simp only [pb,pc]
       refine tz 27 101 (.bool true) hq rfl rfl hH ?_
       simp only [pb,pc]
       refine tz 28 102 (.pointer (some ⟨b,0,none⟩)) hq rfl rfl hH ?_
       simp only [pb,pc]
       refine tz 29 103 (.pointer (some ⟨b,0,none⟩)) hq rfl rfl hH ?_
       simp only [pb,pc]
       refine tz 30 104 (.pointer (some ⟨b,70,none⟩)) hq rfl rfl hH ?_
       simp only [pb,pc]
       refine tz 31 105 (.pointer (some ⟨b,76,none⟩)) hq rfl rfl hH ?_
       simp only [pb,pc]
       refine tq 32 106 (.bool false) hq rfl rfl (fun W hSw=>by (obtain ⟨c0,c12,c13,c14,c15,c63,c64,c65,c66,c67,c68,c69,c70,c71,c72,c73,c74,c75,c76,c77⟩:=HC.out _ (jB HB.out hSw);obtain ⟨-,y0,y1,y2,y3,y4⟩:=At.ty (f:=⟨4,true,q,0,some ⟨g2,off2,none⟩,1,yc⟩) (HA3.out.below hSw);simp only [Nat.zero_add] at y0 y1 y2 y3 y4;obtain ⟨-,z0,z1,z2,z3,z4⟩:=At.ty (f:=⟨k2,m2,q2,s2,ya2,yn2,yc2⟩) (HA4.out.below hSw);simp only [Nat.zero_add] at z0 z1 z2 z3 z4;obtain ⟨-,w0a,w1a,w2a,w3a,w4a⟩:=HE2.out.below (jB HB.out hSw);go_simp;try first|rfl|simp [*])) hH ?_
       simp only [pb,pc]
       refine tz 33 107 (.bool false) hq rfl rfl hH ?_
       simp only [pb,pc]
       refine tq 34 108 (.bool true) hq rfl rfl (fun W hSw=>by (obtain ⟨c0,c12,c13,c14,c15,c63,c64,c65,c66,c67,c68,c69,c70,c71,c72,c73,c74,c75,c76,c77⟩:=HC.out _ (jB HB.out hSw);obtain ⟨-,y0,y1,y2,y3,y4⟩:=At.ty (f:=⟨4,true,q,0,some ⟨g2,off2,none⟩,1,yc⟩) (HA3.out.below hSw);simp only [Nat.zero_add] at y0 y1 y2 y3 y4;obtain ⟨-,z0,z1,z2,z3,z4⟩:=At.ty (f:=⟨k2,m2,q2,s2,ya2,yn2,yc2⟩) (HA4.out.below hSw);simp only [Nat.zero_add] at z0 z1 z2 z3 z4;obtain ⟨-,w0a,w1a,w2a,w3a,w4a⟩:=HE2.out.below (jB HB.out hSw);go_simp;try first|rfl|simp [*])) hH ?_
       simp only [pb,pc]
       refine tz 35 109 (.bool true) hq rfl rfl hH ?_
       simp only [pb,pc]
       refine tz 36 2 (.bool true) hq rfl rfl hH ?_
       simp only [pb,pc]
       refine wpAnyH_done (by kernel_rfl) ?_ _
       go_wp2_with fail
       go_ret
       exact ⟨rfl,jB HB.out HS1.out⟩
    | true =>
     as_aux_lemma =>
      have hr3:r=false:=by rw [hr2];rfl
      subst hr3
      clear hr2
      obtain ⟨c0,c12,c13,c14,c15,c63,c64,c65,c66,c67,c68,c69,c70,c71,c72,c73,c74,c75,c76,c77⟩:=HC.out _ bR
      go_enter Tryz.func178,Tryz.ntmps178
      go_upto_region 1 with fail
      go_cut [3,4] (fun v u V=>∃ b3 b4,v=.pointer (some ⟨b3,0,none⟩)∧u=.pointer (some ⟨b4,0,none⟩)∧At V b3 (tyO 4 true q 0 (some ⟨g2,off2,none⟩) 1 yc)∧At V b4 (tyO k2 m2 q2 s2 ya2 yn2 yc2)∧Below w.heap.size w V)
      case first =>
       go_big_region
       all_goals (go_wp2_with fail)
       all_goals (go_meet)
       all_goals first|exact ⟨_,_,rfl,rfl,((At.new _ _).alloc _).drew,(at_snd _ _ _).drew,(belA (belA bR)).drew⟩|exact ⟨_,_,rfl,rfl,(at_snd _ _ _).drew,((At.new _ _).alloc _).drew,(belA (belA bR)).drew⟩
      case rest =>
       obtain ⟨b3,b4,rfl,rfl,hA3,hA4,hB⟩:=hcut
       have HA3:=jH hA3
       have HA4:=jH hA4
       have HB:=jH hB
       clear hA3 hA4 hB
       clear c0 c12 c13 c14 c15 c63 c64 c65 c66 c67 c68 c69 c70 c71 c72 c73 c74 c75 c76 c77
       obtain ⟨c0,c12,c13,c14,c15,c63,c64,c65,c66,c67,c68,c69,c70,c71,c72,c73,c74,c75,c76,c77⟩:=HC.out _ HB.out
       go_upto_region 10 with fail
       clear c0 c12 c13 c14 c15 c63 c64 c65 c66 c67 c68 c69 c70 c71 c72 c73 c74 c75 c76 c77
       refine beginH (S:=fun V=>Below wc.heap.size wc V) (fun _ _ _ _ _ h=>h) (by kernel_rfl) (belN bR 1) (fun hq hH=>?_)
       refine tz 0 74 (.pointer (some ⟨b3,0,none⟩)) hq rfl rfl hH ?_
       simp only [pb,pc]
       refine tq 1 75 (.int .u8 4) hq rfl rfl (fun W hSw=>by (obtain ⟨c0,c12,c13,c14,c15,c63,c64,c65,c66,c67,c68,c69,c70,c71,c72,c73,c74,c75,c76,c77⟩:=HC.out _ (jB HB.out hSw);obtain ⟨-,y0,y1,y2,y3,y4⟩:=At.ty (f:=⟨4,true,q,0,some ⟨g2,off2,none⟩,1,yc⟩) (HA3.out.below hSw);simp only [Nat.zero_add] at y0 y1 y2 y3 y4;obtain ⟨-,z0,z1,z2,z3,z4⟩:=At.ty (f:=⟨k2,m2,q2,s2,ya2,yn2,yc2⟩) (HA4.out.below hSw);simp only [Nat.zero_add] at z0 z1 z2 z3 z4;obtain ⟨-,w0a,w1a,w2a,w3a,w4a⟩:=HE2.out.below (jB HB.out hSw);go_simp;try first|rfl|simp [*])) hH ?_
       simp only [pb,pc]
       refine tq 2 76 (.bool true) hq rfl rfl (fun W hSw=>by (obtain ⟨c0,c12,c13,c14,c15,c63,c64,c65,c66,c67,c68,c69,c70,c71,c72,c73,c74,c75,c76,c77⟩:=HC.out _ (jB HB.out hSw);obtain ⟨-,y0,y1,y2,y3,y4⟩:=At.ty (f:=⟨4,true,q,0,some ⟨g2,off2,none⟩,1,yc⟩) (HA3.out.below hSw);simp only [Nat.zero_add] at y0 y1 y2 y3 y4;obtain ⟨-,z0,z1,z2,z3,z4⟩:=At.ty (f:=⟨k2,m2,q2,s2,ya2,yn2,yc2⟩) (HA4.out.below hSw);simp only [Nat.zero_add] at z0 z1 z2 z3 z4;obtain ⟨-,w0a,w1a,w2a,w3a,w4a⟩:=HE2.out.below (jB HB.out hSw);go_simp;try first|rfl|simp [*])) hH ?_
       simp only [pb,pc]
       refine tz 3 77 (.bool true) hq rfl rfl hH ?_
       simp only [pb,pc]
       refine tz 4 78 (.pointer (some ⟨b3,1,none⟩)) hq rfl rfl hH ?_
       simp only [pb,pc]
       refine tq 5 79 (.bool true) hq rfl rfl (fun W hSw=>by (obtain ⟨c0,c12,c13,c14,c15,c63,c64,c65,c66,c67,c68,c69,c70,c71,c72,c73,c74,c75,c76,c77⟩:=HC.out _ (jB HB.out hSw);obtain ⟨-,y0,y1,y2,y3,y4⟩:=At.ty (f:=⟨4,true,q,0,some ⟨g2,off2,none⟩,1,yc⟩) (HA3.out.below hSw);simp only [Nat.zero_add] at y0 y1 y2 y3 y4;obtain ⟨-,z0,z1,z2,z3,z4⟩:=At.ty (f:=⟨k2,m2,q2,s2,ya2,yn2,yc2⟩) (HA4.out.below hSw);simp only [Nat.zero_add] at z0 z1 z2 z3 z4;obtain ⟨-,w0a,w1a,w2a,w3a,w4a⟩:=HE2.out.below (jB HB.out hSw);go_simp;try first|rfl|simp [*])) hH ?_
       simp only [pb,pc]
       refine tz 6 80 (.pointer (some ⟨b,0,none⟩)) hq rfl rfl hH ?_
       simp only [pb,pc]
       refine tz 7 81 (.pointer (some ⟨b,0,none⟩)) hq rfl rfl hH ?_
       simp only [pb,pc]
       refine tz 8 82 (.pointer (some ⟨b,0,none⟩)) hq rfl rfl hH ?_
       simp only [pb,pc]
       refine tz 9 83 (.pointer (some ⟨b,15,none⟩)) hq rfl rfl hH ?_
       simp only [pb,pc]
       refine tq 10 84 (.bool true) hq rfl rfl (fun W hSw=>by (obtain ⟨c0,c12,c13,c14,c15,c63,c64,c65,c66,c67,c68,c69,c70,c71,c72,c73,c74,c75,c76,c77⟩:=HC.out _ (jB HB.out hSw);obtain ⟨-,y0,y1,y2,y3,y4⟩:=At.ty (f:=⟨4,true,q,0,some ⟨g2,off2,none⟩,1,yc⟩) (HA3.out.below hSw);simp only [Nat.zero_add] at y0 y1 y2 y3 y4;obtain ⟨-,z0,z1,z2,z3,z4⟩:=At.ty (f:=⟨k2,m2,q2,s2,ya2,yn2,yc2⟩) (HA4.out.below hSw);simp only [Nat.zero_add] at z0 z1 z2 z3 z4;obtain ⟨-,w0a,w1a,w2a,w3a,w4a⟩:=HE2.out.below (jB HB.out hSw);go_simp;try first|rfl|simp [*])) hH ?_
       simp only [pb,pc]
       refine tq 11 85 (.bool true) hq rfl rfl (fun W hSw=>by (obtain ⟨c0,c12,c13,c14,c15,c63,c64,c65,c66,c67,c68,c69,c70,c71,c72,c73,c74,c75,c76,c77⟩:=HC.out _ (jB HB.out hSw);obtain ⟨-,y0,y1,y2,y3,y4⟩:=At.ty (f:=⟨4,true,q,0,some ⟨g2,off2,none⟩,1,yc⟩) (HA3.out.below hSw);simp only [Nat.zero_add] at y0 y1 y2 y3 y4;obtain ⟨-,z0,z1,z2,z3,z4⟩:=At.ty (f:=⟨k2,m2,q2,s2,ya2,yn2,yc2⟩) (HA4.out.below hSw);simp only [Nat.zero_add] at z0 z1 z2 z3 z4;obtain ⟨-,w0a,w1a,w2a,w3a,w4a⟩:=HE2.out.below (jB HB.out hSw);go_simp;try first|rfl|simp [*])) hH ?_
       simp only [pb,pc]
       refine tz 12 86 (.bool true) hq rfl rfl hH ?_
       simp only [pb,pc]
       refine tz 13 87 (.bool true) hq rfl rfl hH ?_
       simp only [pb,pc]
       refine tz 14 88 (.pointer (some ⟨b3,4,none⟩)) hq rfl rfl hH ?_
       simp only [pb,pc]
       refine tq 15 89 (.slice (some ⟨g2,off2,none⟩) 1 yc) hq rfl rfl (fun W hSw=>by (obtain ⟨c0,c12,c13,c14,c15,c63,c64,c65,c66,c67,c68,c69,c70,c71,c72,c73,c74,c75,c76,c77⟩:=HC.out _ (jB HB.out hSw);obtain ⟨-,y0,y1,y2,y3,y4⟩:=At.ty (f:=⟨4,true,q,0,some ⟨g2,off2,none⟩,1,yc⟩) (HA3.out.below hSw);simp only [Nat.zero_add] at y0 y1 y2 y3 y4;obtain ⟨-,z0,z1,z2,z3,z4⟩:=At.ty (f:=⟨k2,m2,q2,s2,ya2,yn2,yc2⟩) (HA4.out.below hSw);simp only [Nat.zero_add] at z0 z1 z2 z3 z4;obtain ⟨-,w0a,w1a,w2a,w3a,w4a⟩:=HE2.out.below (jB HB.out hSw);go_simp;try first|rfl|simp [*])) hH ?_
       simp only [pb,pc]
       refine tz 16 90 (.pointer (some ⟨g2,off2,none⟩)) hq rfl rfl hH ?_
       simp only [pb,pc]
       refine tq 17 91 (.agg #[.int .u8 (dk:Int),.bool dm,.int .i64 dr2,.int .i64 ds,.slice da dn dc]) hq rfl rfl (fun W hSw=>by (obtain ⟨c0,c12,c13,c14,c15,c63,c64,c65,c66,c67,c68,c69,c70,c71,c72,c73,c74,c75,c76,c77⟩:=HC.out _ (jB HB.out hSw);obtain ⟨-,y0,y1,y2,y3,y4⟩:=At.ty (f:=⟨4,true,q,0,some ⟨g2,off2,none⟩,1,yc⟩) (HA3.out.below hSw);simp only [Nat.zero_add] at y0 y1 y2 y3 y4;obtain ⟨-,z0,z1,z2,z3,z4⟩:=At.ty (f:=⟨k2,m2,q2,s2,ya2,yn2,yc2⟩) (HA4.out.below hSw);simp only [Nat.zero_add] at z0 z1 z2 z3 z4;obtain ⟨-,w0a,w1a,w2a,w3a,w4a⟩:=HE2.out.below (jB HB.out hSw);go_simp;try first|rfl|simp [*])) hH ?_
       simp only [pb,pc]
       refine tq 18 92 (.agg #[.int .u8 (k2:Int),.bool m2,.int .i64 q2,.int .i64 s2,.slice ya2 yn2 yc2]) hq rfl rfl (fun W hSw=>by (obtain ⟨c0,c12,c13,c14,c15,c63,c64,c65,c66,c67,c68,c69,c70,c71,c72,c73,c74,c75,c76,c77⟩:=HC.out _ (jB HB.out hSw);obtain ⟨-,y0,y1,y2,y3,y4⟩:=At.ty (f:=⟨4,true,q,0,some ⟨g2,off2,none⟩,1,yc⟩) (HA3.out.below hSw);simp only [Nat.zero_add] at y0 y1 y2 y3 y4;obtain ⟨-,z0,z1,z2,z3,z4⟩:=At.ty (f:=⟨k2,m2,q2,s2,ya2,yn2,yc2⟩) (HA4.out.below hSw);simp only [Nat.zero_add] at z0 z1 z2 z3 z4;obtain ⟨-,w0a,w1a,w2a,w3a,w4a⟩:=HE2.out.below (jB HB.out hSw);go_simp;try first|rfl|simp [*])) hH ?_
       simp only [pb,pc]
       refine aR1 19 rfl (fun K hK=>?_)
       go_simp
       refine (CA.out _ (jB HB.out (belN bR 1))).mono ?_
       rintro e v1 ⟨rfl,hb1⟩
       have hS1:Below wc.heap.size wc v1:=jB (belN bR 1) hb1
       go_wp2_with fail
       refine hK.out _ _ hS1 (fun hH=>?_)
       clear hK K
       try simp only [Act.put,List.setIfInBounds_toArray,pb,pc]
       have HS1:=jH hS1
       clear hb1 hS1
       refine tz 20 94 (.bool true) hq rfl rfl hH ?_
       simp only [pb,pc]
       refine tz 21 95 (.bool true) hq rfl rfl hH ?_
       simp only [pb,pc]
       refine tz 22 96 (.pointer (some ⟨b,0,none⟩)) hq rfl rfl hH ?_
       simp only [pb,pc]
       refine tz 23 97 (.pointer (some ⟨b,0,none⟩)) hq rfl rfl hH ?_
       simp only [pb,pc]
       refine tz 24 98 (.pointer (some ⟨b,0,none⟩)) hq rfl rfl hH ?_
       simp only [pb,pc]
       refine tz 25 99 (.pointer (some ⟨b,15,none⟩)) hq rfl rfl hH ?_
       simp only [pb,pc]
       refine tq 26 100 (.bool true) hq rfl rfl (fun W hSw=>by (obtain ⟨c0,c12,c13,c14,c15,c63,c64,c65,c66,c67,c68,c69,c70,c71,c72,c73,c74,c75,c76,c77⟩:=HC.out _ (jB HB.out hSw);obtain ⟨-,y0,y1,y2,y3,y4⟩:=At.ty (f:=⟨4,true,q,0,some ⟨g2,off2,none⟩,1,yc⟩) (HA3.out.below hSw);simp only [Nat.zero_add] at y0 y1 y2 y3 y4;obtain ⟨-,z0,z1,z2,z3,z4⟩:=At.ty (f:=⟨k2,m2,q2,s2,ya2,yn2,yc2⟩) (HA4.out.below hSw);simp only [Nat.zero_add] at z0 z1 z2 z3 z4;obtain ⟨-,w0a,w1a,w2a,w3a,w4a⟩:=HE2.out.below (jB HB.out hSw);go_simp;try first|rfl|simp [*])) hH ?_
       simp only [pb,pc]
       refine tz 27 101 (.bool true) hq rfl rfl hH ?_
       simp only [pb,pc]
       refine tz 28 102 (.pointer (some ⟨b,0,none⟩)) hq rfl rfl hH ?_
       simp only [pb,pc]
       refine tz 29 103 (.pointer (some ⟨b,0,none⟩)) hq rfl rfl hH ?_
       simp only [pb,pc]
       refine tz 30 104 (.pointer (some ⟨b,70,none⟩)) hq rfl rfl hH ?_
       simp only [pb,pc]
       refine tz 31 105 (.pointer (some ⟨b,76,none⟩)) hq rfl rfl hH ?_
       simp only [pb,pc]
       refine tq 32 106 (.bool true) hq rfl rfl (fun W hSw=>by (obtain ⟨c0,c12,c13,c14,c15,c63,c64,c65,c66,c67,c68,c69,c70,c71,c72,c73,c74,c75,c76,c77⟩:=HC.out _ (jB HB.out hSw);obtain ⟨-,y0,y1,y2,y3,y4⟩:=At.ty (f:=⟨4,true,q,0,some ⟨g2,off2,none⟩,1,yc⟩) (HA3.out.below hSw);simp only [Nat.zero_add] at y0 y1 y2 y3 y4;obtain ⟨-,z0,z1,z2,z3,z4⟩:=At.ty (f:=⟨k2,m2,q2,s2,ya2,yn2,yc2⟩) (HA4.out.below hSw);simp only [Nat.zero_add] at z0 z1 z2 z3 z4;obtain ⟨-,w0a,w1a,w2a,w3a,w4a⟩:=HE2.out.below (jB HB.out hSw);go_simp;try first|rfl|simp [*])) hH ?_
       simp only [pb,pc]
       refine tz 33 107 (.bool true) hq rfl rfl hH ?_
       simp only [pb,pc]
       refine tq 34 108 (.bool false) hq rfl rfl (fun W hSw=>by (obtain ⟨c0,c12,c13,c14,c15,c63,c64,c65,c66,c67,c68,c69,c70,c71,c72,c73,c74,c75,c76,c77⟩:=HC.out _ (jB HB.out hSw);obtain ⟨-,y0,y1,y2,y3,y4⟩:=At.ty (f:=⟨4,true,q,0,some ⟨g2,off2,none⟩,1,yc⟩) (HA3.out.below hSw);simp only [Nat.zero_add] at y0 y1 y2 y3 y4;obtain ⟨-,z0,z1,z2,z3,z4⟩:=At.ty (f:=⟨k2,m2,q2,s2,ya2,yn2,yc2⟩) (HA4.out.below hSw);simp only [Nat.zero_add] at z0 z1 z2 z3 z4;obtain ⟨-,w0a,w1a,w2a,w3a,w4a⟩:=HE2.out.below (jB HB.out hSw);go_simp;try first|rfl|simp [*])) hH ?_
       simp only [pb,pc]
       refine tz 35 109 (.bool false) hq rfl rfl hH ?_
       simp only [pb,pc]
       refine tz 36 2 (.bool false) hq rfl rfl hH ?_
       simp only [pb,pc]
       refine wpAnyH_done (by kernel_rfl) ?_ _
       go_wp2_with fail
       go_ret
       exact ⟨rfl,jB HB.out HS1.out⟩
end Go.Proofs.YtmjenlogbkbgnaaGreatDoor
