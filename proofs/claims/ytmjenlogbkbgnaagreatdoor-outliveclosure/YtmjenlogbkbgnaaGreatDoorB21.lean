import Derived.Test.YtmjenlogbkbgnaaGreatDoorB19
namespace Go.Proofs.YtmjenlogbkbgnaaGreatDoor
open Go.RowKit Go.Shelf
set_option linter.unusedVariables false
set_option linter.unusedSimpArgs false
set_option maxRecDepth 100000
set_option maxHeartbeats 8000000
theorem lc_two (w:World) (f g:Fv) (c d:Ch) (h:TyAt w f c.ty) (h':TyAt w g d.ty):LcAt (w.alloc (.cells #[.int .u8 (f.k:Int),.bool f.m,.int .i64 f.r,.int .i64 f.s,.slice f.a f.n f.cap,.int .u8 (g.k:Int),.bool g.m,.int .i64 g.r,.int .i64 g.s,.slice g.a g.n g.cap] 43 (0,0))) (some ⟨w.heap.size,0,none⟩) 2 2 ([c,d].map Ch.ty):=by
 have hA:=At.new w (.cells #[.int .u8 (f.k:Int),.bool f.m,.int .i64 f.r,.int .i64 f.s,.slice f.a f.n f.cap,.int .u8 (g.k:Int),.bool g.m,.int .i64 g.r,.int .i64 g.s,.slice g.a g.n g.cap] 43 (0,0))
 have hB:Below w.heap.size w (w.alloc (.cells #[.int .u8 (f.k:Int),.bool f.m,.int .i64 f.r,.int .i64 f.s,.slice f.a f.n f.cap,.int .u8 (g.k:Int),.bool g.m,.int .i64 g.r,.int .i64 g.s,.slice g.a g.n g.cap] 43 (0,0))):=belA bR
 generalize w.alloc (.cells #[.int .u8 (f.k:Int),.bool f.m,.int .i64 f.r,.int .i64 f.s,.slice f.a f.n f.cap,.int .u8 (g.k:Int),.bool g.m,.int .i64 g.r,.int .i64 g.s,.slice g.a g.n g.cap] 43 (0,0))=W at hA hB ⊢
 refine ⟨rfl,by unfold maxLen;decide,fun _=>⟨w.heap.size,0,rfl,fun i t hi=>?_⟩⟩
 have hl:=hA.lt
 unfold At at hA
 match i,hi with
 | 0,hi=>simp at hi;subst hi;exact ⟨f,⟨hl,by simp [World.cell?,hA],by simp [World.cell?,hA],by simp [World.cell?,hA],by simp [World.cell?,hA],by simp [World.cell?,hA]⟩,h.bel hB⟩
 | 1,hi=>simp at hi;subst hi;exact ⟨g,⟨hl,by simp [World.cell?,hA],by simp [World.cell?,hA],by simp [World.cell?,hA],by simp [World.cell?,hA],by simp [World.cell?,hA]⟩,h'.bel hB⟩
 | i+2,hi=>simp at hi
def unB (sg:List UInt8) (t o:Ch):Bool:=(decide (sg=[45]) && allK 1 [t,o]) || (decide (sg=[33]) && allK 2 [t,o])
theorem op_unary {w0 w:World} (hB0:Below w0.heap.size w0 w) (b:Nat) (s:Scv) (hs:ScS w b s) (t f:Ch) (os:List Ch) (hT:TyAt w s.tw.f t.ty) (hF:TyAt w s.fw.f f.ty) (hL:LcAt w s.ta s.tn s.tc (os.map Ch.ty)) (hxn:s.tn≤2000000) (hO:∀ c∈os,Ok c) (hop:s.pv.op=3) (hne:os≠[]) (r:Bool) (hr:r=unB s.pv.sg.toList t ((os[0]?).getD (.leaf 0 0))) :
  Calls Tryz.prog 178 #[.pointer (some ⟨b,0,none⟩)] w fun e w'=>e=.returned (.bool r)∧Below w.heap.size w w':=by
 obtain ⟨⟨op,⟨tl,ta,tn,tc⟩,⟨ak,an,al,aa,am,ac⟩,⟨bk,bn,bl,ba,bm,bc⟩,ra,rn,rc,sg,⟨fl,fa,fm,fc⟩,mu,fn,st,nx,el,ps⟩,sa,sn,sc,ua,un,ucap,mn,nm,lv,oa,on,oc,pa,la,ln,lc,na,nn,nc,qa,qn,qc,dr,⟨⟨k,m,q,s,ya,yn,yc⟩,tbr,tbs⟩,⟨⟨k2,m2,q2,s2,ya2,yn2,yc2⟩,fbr,fbs⟩,xa,xn,xc⟩:=s
 have hlt:b<w.heap.size:=hs.lt
 have hop2:op=3:=hop
 subst hop2
 have HC:Hid (∀ W,Below w.heap.size w W→W.cell? ⟨b,0,none⟩=some (.int .u8 3)∧W.cell? ⟨b,12,none⟩=some (.string sg)∧W.cell? ⟨b,13,none⟩=some (.int .i64 fl)∧W.cell? ⟨b,14,none⟩=some (.slice fa fm fc)∧W.cell? ⟨b,15,none⟩=some (.bool mu)∧W.cell? ⟨b,63,none⟩=some (.int .u8 (k:Int))∧W.cell? ⟨b,64,none⟩=some (.bool m)∧W.cell? ⟨b,65,none⟩=some (.int .i64 q)∧W.cell? ⟨b,66,none⟩=some (.int .i64 s)∧W.cell? ⟨b,67,none⟩=some (.slice ya yn yc)∧W.cell? ⟨b,68,none⟩=some (.bool tbr)∧W.cell? ⟨b,69,none⟩=some (.bool tbs)∧W.cell? ⟨b,70,none⟩=some (.int .u8 (k2:Int))∧W.cell? ⟨b,71,none⟩=some (.bool m2)∧W.cell? ⟨b,72,none⟩=some (.int .i64 q2)∧W.cell? ⟨b,73,none⟩=some (.int .i64 s2)∧W.cell? ⟨b,74,none⟩=some (.slice ya2 yn2 yc2)∧W.cell? ⟨b,75,none⟩=some (.bool fbr)∧W.cell? ⟨b,76,none⟩=some (.bool fbs)∧W.cell? ⟨b,77,none⟩=some (.slice xa xn xc)):=fun W hW=>⟨(hs.bel hW).pt.2.1,(hs.bel hW).pt.2.2.2.2.2.2.2.2.2.2.2.2.2.1,(hs.bel hW).pt.2.2.2.2.2.2.2.2.2.2.2.2.2.2.1,(hs.bel hW).pt.2.2.2.2.2.2.2.2.2.2.2.2.2.2.2.1,(hs.bel hW).pt.2.2.2.2.2.2.2.2.2.2.2.2.2.2.2.2.1,(hs.bel hW).tw.2.1,(hs.bel hW).tw.2.2.1,(hs.bel hW).tw.2.2.2.1,(hs.bel hW).tw.2.2.2.2.1,(hs.bel hW).tw.2.2.2.2.2,(hs.bel hW).t68,(hs.bel hW).t69,(hs.bel hW).fw.2.1,(hs.bel hW).fw.2.2.1,(hs.bel hW).fw.2.2.2.1,(hs.bel hW).fw.2.2.2.2.1,(hs.bel hW).fw.2.2.2.2.2,(hs.bel hW).f75,(hs.bel hW).f76,(hs.bel hW).c77⟩
 obtain ⟨o,os',rfl⟩:∃ o os',os=o::os':=by cases os with|nil=>exact absurd rfl hne|cons o l=>exact ⟨o,l,rfl⟩
 obtain ⟨g,off,V0,ea,hE0,hTE⟩:=hL.one (i:=0) (t:=o.ty) rfl
 have ea2:xa=some ⟨g,off,none⟩:=ea
 subst ea2
 rw [Nat.zero_mul,Nat.add_zero] at hE0
 obtain ⟨ok,om,orr,osx,oax,onx,ocx⟩:=V0
 have HE:Hid (C5 w g off ⟨ok,om,orr,osx,oax,onx,ocx⟩):=hE0
 have hxl:0<xn:=by have:=hL.len;simp at this;omega
 have x0:(0:Int)<(xn:Int):=by omega
 have x1:(xn:Int)≤2000000:=by have:xn≤2000000:=hxn;omega
 have hOo:Ok o:=hO o (List.mem_cons_self ..)
 obtain ⟨u1,hu1⟩:∃ u1,u1=allK 1 [t,o]:=⟨_,rfl⟩
 have CU1:Hid (∀ W,Below w.heap.size w W→Calls Tryz.prog 197 #[.int .u8 1,.slice (some ⟨W.heap.size,0,none⟩) 2 2] (W.alloc (.cells #[.int .u8 (k:Int),.bool m,.int .i64 q,.int .i64 s,.slice ya yn yc,.int .u8 (ok:Int),.bool om,.int .i64 orr,.int .i64 osx,.slice oax onx ocx] 43 (0,0))) fun e w'=>e=.returned (.bool u1)∧Below W.heap.size W w'):=fun W hW=>(areAll_any _ 1 _ 2 2 [t,o] (lc_two W ⟨k,m,q,s,ya,yn,yc⟩ ⟨ok,om,orr,osx,oax,onx,ocx⟩ t o (hT.bel hW) (hTE.bel hW)) (by decide) u1 hu1).mono fun e w' x=>⟨x.1,below1 x.2⟩
 obtain ⟨u2,hu2⟩:∃ u2,u2=allK 2 [t,o]:=⟨_,rfl⟩
 have CU2:Hid (∀ W,Below w.heap.size w W→Calls Tryz.prog 197 #[.int .u8 2,.slice (some ⟨W.heap.size,0,none⟩) 2 2] (W.alloc (.cells #[.int .u8 (k:Int),.bool m,.int .i64 q,.int .i64 s,.slice ya yn yc,.int .u8 (ok:Int),.bool om,.int .i64 orr,.int .i64 osx,.slice oax onx ocx] 43 (0,0))) fun e w'=>e=.returned (.bool u2)∧Below W.heap.size W w'):=fun W hW=>(areAll_any _ 2 _ 2 2 [t,o] (lc_two W ⟨k,m,q,s,ya,yn,yc⟩ ⟨ok,om,orr,osx,oax,onx,ocx⟩ t o (hT.bel hW) (hTE.bel hW)) (by decide) u2 hu2).mono fun e w' x=>⟨x.1,below1 x.2⟩
 have hr2:r=((decide (sg.toList=[45]) && u1) || (decide (sg.toList=[33]) && u2)):=by rw [hr,hu1,hu2];rfl
 clear hs hT hF hL hO hr hE0 hTE hOo hxl hxn hB0 hu1 hu2
 by_cases h45:sg.toList=[45]
 ·have f45:(sg.toList == [45])=true:=by rw [h45];rfl
  have f33:(sg.toList == [33])=false:=by rw [h45];rfl
  cases u1 with
  | true =>
   have hr3:r=true:=by rw [hr2,h45];rfl
   subst hr3
   clear hr2
   obtain ⟨c0,c12,c13,c14,c15,c63,c64,c65,c66,c67,c68,c69,c70,c71,c72,c73,c74,c75,c76,c77⟩:=HC.out _ bR
   go_enter Tryz.func178,Tryz.ntmps178
   go_upto_region 1 with fail
   go_cut [3,4] (fun v u V=>∃ b3 b4,v=.pointer (some ⟨b3,0,none⟩)∧u=.pointer (some ⟨b4,0,none⟩)∧At V b3 (tyO k m q s ya yn yc)∧At V b4 (tyO k2 m2 q2 s2 ya2 yn2 yc2)∧Below w.heap.size w V)
   case first =>
    go_big_region
    all_goals (go_wp2_with fail)
    all_goals (go_meet)
    all_goals first|exact ⟨_,_,rfl,rfl,((At.new _ _).alloc _).drew,(at_snd _ _ _).drew,(belA (belA bR)).drew⟩|exact ⟨_,_,rfl,rfl,(at_snd _ _ _).drew,((At.new _ _).alloc _).drew,(belA (belA bR)).drew⟩
   case rest =>
    obtain ⟨b3,b4,rfl,rfl,hA3,hA4,hB⟩:=hcut
    have HA3:=jH hA3
    have HA4:=jH hA4
    have HB:=jH hB
    clear hA3 hA4 hB
    clear c0 c12 c13 c14 c15 c63 c64 c65 c66 c67 c68 c69 c70 c71 c72 c73 c74 c75 c76 c77
    obtain ⟨c0,c12,c13,c14,c15,c63,c64,c65,c66,c67,c68,c69,c70,c71,c72,c73,c74,c75,c76,c77⟩:=HC.out _ HB.out
    go_upto_region 8 with fail
    clear c0 c12 c13 c14 c15 c63 c64 c65 c66 c67 c68 c69 c70 c71 c72 c73 c74 c75 c76 c77
    refine beginH (S:=fun V=>Below wc.heap.size wc V) (fun _ _ _ _ _ h=>h) (by kernel_rfl) (belN bR 1) (fun hq hH=>?_)
    refine tz 0 36 (.pointer (some ⟨b,0,none⟩)) hq rfl rfl hH ?_
    simp only [pb,pc]
    refine tz 1 37 (.pointer (some ⟨b,0,none⟩)) hq rfl rfl hH ?_
    simp only [pb,pc]
    refine tz 2 38 (.pointer (some ⟨b,0,none⟩)) hq rfl rfl hH ?_
    simp only [pb,pc]
    refine tz 3 39 (.pointer (some ⟨b,12,none⟩)) hq rfl rfl hH ?_
    simp only [pb,pc]
    refine tq 4 40 (.string sg) hq rfl rfl (fun W hSw=>by (obtain ⟨c0,c12,c13,c14,c15,c63,c64,c65,c66,c67,c68,c69,c70,c71,c72,c73,c74,c75,c76,c77⟩:=HC.out _ (jB HB.out hSw);obtain ⟨-,y0,y1,y2,y3,y4⟩:=At.ty (f:=⟨k,m,q,s,ya,yn,yc⟩) (HA3.out.below hSw);simp only [Nat.zero_add] at y0 y1 y2 y3 y4;obtain ⟨-,x0a,x1a,x2a,x3a,x4a⟩:=HE.out.below (jB HB.out hSw);go_simp;try first|rfl|simp [*])) hH ?_
    simp only [pb,pc]
    refine tq 5 41 (.bool true) hq rfl rfl (fun W hSw=>by (obtain ⟨c0,c12,c13,c14,c15,c63,c64,c65,c66,c67,c68,c69,c70,c71,c72,c73,c74,c75,c76,c77⟩:=HC.out _ (jB HB.out hSw);obtain ⟨-,y0,y1,y2,y3,y4⟩:=At.ty (f:=⟨k,m,q,s,ya,yn,yc⟩) (HA3.out.below hSw);simp only [Nat.zero_add] at y0 y1 y2 y3 y4;obtain ⟨-,x0a,x1a,x2a,x3a,x4a⟩:=HE.out.below (jB HB.out hSw);go_simp;try first|rfl|simp [*])) hH ?_
    simp only [pb,pc]
    refine tz 6 42 (.bool true) hq rfl rfl hH ?_
    simp only [pb,pc]
    refine tq 7 43 (.agg #[.int .u8 (k:Int),.bool m,.int .i64 q,.int .i64 s,.slice ya yn yc]) hq rfl rfl (fun W hSw=>by (obtain ⟨c0,c12,c13,c14,c15,c63,c64,c65,c66,c67,c68,c69,c70,c71,c72,c73,c74,c75,c76,c77⟩:=HC.out _ (jB HB.out hSw);obtain ⟨-,y0,y1,y2,y3,y4⟩:=At.ty (f:=⟨k,m,q,s,ya,yn,yc⟩) (HA3.out.below hSw);simp only [Nat.zero_add] at y0 y1 y2 y3 y4;obtain ⟨-,x0a,x1a,x2a,x3a,x4a⟩:=HE.out.below (jB HB.out hSw);go_simp;try first|rfl|simp [*])) hH ?_
    simp only [pb,pc]
    refine tz 8 44 (.pointer (some ⟨b,0,none⟩)) hq rfl rfl hH ?_
    simp only [pb,pc]
    refine tz 9 45 (.pointer (some ⟨b,0,none⟩)) hq rfl rfl hH ?_
    simp only [pb,pc]
    refine tz 10 46 (.pointer (some ⟨b,77,none⟩)) hq rfl rfl hH ?_
    simp only [pb,pc]
    refine tq 11 47 (.slice (some ⟨g,off,none⟩) xn xc) hq rfl rfl (fun W hSw=>by (obtain ⟨c0,c12,c13,c14,c15,c63,c64,c65,c66,c67,c68,c69,c70,c71,c72,c73,c74,c75,c76,c77⟩:=HC.out _ (jB HB.out hSw);obtain ⟨-,y0,y1,y2,y3,y4⟩:=At.ty (f:=⟨k,m,q,s,ya,yn,yc⟩) (HA3.out.below hSw);simp only [Nat.zero_add] at y0 y1 y2 y3 y4;obtain ⟨-,x0a,x1a,x2a,x3a,x4a⟩:=HE.out.below (jB HB.out hSw);go_simp;try first|rfl|simp [*])) hH ?_
    simp only [pb,pc]
    refine tz 12 48 (.pointer (some ⟨g,off,none⟩)) hq rfl rfl hH ?_
    simp only [pb,pc]
    refine tq 13 49 (.agg #[.int .u8 (ok:Int),.bool om,.int .i64 orr,.int .i64 osx,.slice oax onx ocx]) hq rfl rfl (fun W hSw=>by (obtain ⟨c0,c12,c13,c14,c15,c63,c64,c65,c66,c67,c68,c69,c70,c71,c72,c73,c74,c75,c76,c77⟩:=HC.out _ (jB HB.out hSw);obtain ⟨-,y0,y1,y2,y3,y4⟩:=At.ty (f:=⟨k,m,q,s,ya,yn,yc⟩) (HA3.out.below hSw);simp only [Nat.zero_add] at y0 y1 y2 y3 y4;obtain ⟨-,x0a,x1a,x2a,x3a,x4a⟩:=HE.out.below (jB HB.out hSw);go_simp;try first|rfl|simp [*])) hH ?_
    simp only [pb,pc]
    refine aR1 14 rfl (fun K hK=>?_)
    go_simp
    refine hK.out _ _ (belA hH) (fun hH=>?_)
    clear hK K
    try simp only [Act.put,List.setIfInBounds_toArray,pb,pc]
    refine aR1 15 rfl (fun K hK=>?_)
    go_simp
    refine (CU1.out wc.drew (belN HB.out 1)).mono ?_
    rintro e v1 ⟨rfl,hb1⟩
    have hS1:Below wc.heap.size wc v1:=jB (belN bR 1) hb1
    go_wp2_with fail
    refine hK.out _ _ hS1 (fun hH=>?_)
    clear hK K
    try simp only [Act.put,List.setIfInBounds_toArray,pb,pc]
    have HS1:=jH hS1
    clear hb1 hS1
    refine tz 16 52 (.bool true) hq rfl rfl hH ?_
    simp only [pb,pc]
    refine tz 17 53 (.bool true) hq rfl rfl hH ?_
    simp only [pb,pc]
    refine sq 18 54 hq rfl rfl hH ?_
    simp only [pb,pc]
    refine sq 19 55 hq rfl rfl hH ?_
    simp only [pb,pc]
    refine sq 20 56 hq rfl rfl hH ?_
    simp only [pb,pc]
    refine sq 21 57 hq rfl rfl hH ?_
    simp only [pb,pc]
    refine sq 22 58 hq rfl rfl hH ?_
    simp only [pb,pc]
    refine sq 23 59 hq rfl rfl hH ?_
    simp only [pb,pc]
    refine sq 24 60 hq rfl rfl hH ?_
    simp only [pb,pc]
    refine sq 25 61 hq rfl rfl hH ?_
    simp only [pb,pc]
    refine sq 26 62 hq rfl rfl hH ?_
    simp only [pb,pc]
    refine sq 27 63 hq rfl rfl hH ?_
    simp only [pb,pc]
    refine sq 28 64 hq rfl rfl hH ?_
    simp only [pb,pc]
    refine sq 29 65 hq rfl rfl hH ?_
    simp only [pb,pc]
    refine sq 30 66 hq rfl rfl hH ?_
    simp only [pb,pc]
    refine sq 31 67 hq rfl rfl hH ?_
    simp only [pb,pc]
    refine sq 32 68 hq rfl rfl hH ?_
    simp only [pb,pc]
    refine sq 33 69 hq rfl rfl hH ?_
    simp only [pb,pc]
    refine sq 34 70 hq rfl rfl hH ?_
    simp only [pb,pc]
    refine tz 35 71 (.bool true) hq rfl rfl hH ?_
    simp only [pb,pc]
    refine tz 36 2 (.bool true) hq rfl rfl hH ?_
    simp only [pb,pc]
    refine wpAnyH_done (by kernel_rfl) ?_ _
    go_wp2_with fail
    go_ret
    exact ⟨rfl,jB HB.out HS1.out⟩
  | false =>
   have hr3:r=false:=by rw [hr2,h45];rfl
   subst hr3
   clear hr2
   obtain ⟨c0,c12,c13,c14,c15,c63,c64,c65,c66,c67,c68,c69,c70,c71,c72,c73,c74,c75,c76,c77⟩:=HC.out _ bR
   go_enter Tryz.func178,Tryz.ntmps178
   go_upto_region 1 with fail
   go_cut [3,4] (fun v u V=>∃ b3 b4,v=.pointer (some ⟨b3,0,none⟩)∧u=.pointer (some ⟨b4,0,none⟩)∧At V b3 (tyO k m q s ya yn yc)∧At V b4 (tyO k2 m2 q2 s2 ya2 yn2 yc2)∧Below w.heap.size w V)
   case first =>
    go_big_region
    all_goals (go_wp2_with fail)
    all_goals (go_meet)
    all_goals first|exact ⟨_,_,rfl,rfl,((At.new _ _).alloc _).drew,(at_snd _ _ _).drew,(belA (belA bR)).drew⟩|exact ⟨_,_,rfl,rfl,(at_snd _ _ _).drew,((At.new _ _).alloc _).drew,(belA (belA bR)).drew⟩
   case rest =>
    obtain ⟨b3,b4,rfl,rfl,hA3,hA4,hB⟩:=hcut
    have HA3:=jH hA3
    have HA4:=jH hA4
    have HB:=jH hB
    clear hA3 hA4 hB
    clear c0 c12 c13 c14 c15 c63 c64 c65 c66 c67 c68 c69 c70 c71 c72 c73 c74 c75 c76 c77
    obtain ⟨c0,c12,c13,c14,c15,c63,c64,c65,c66,c67,c68,c69,c70,c71,c72,c73,c74,c75,c76,c77⟩:=HC.out _ HB.out
    go_upto_region 8 with fail
    clear c0 c12 c13 c14 c15 c63 c64 c65 c66 c67 c68 c69 c70 c71 c72 c73 c74 c75 c76 c77
    refine beginH (S:=fun V=>Below wc.heap.size wc V) (fun _ _ _ _ _ h=>h) (by kernel_rfl) (belN bR 1) (fun hq hH=>?_)
    refine tz 0 36 (.pointer (some ⟨b,0,none⟩)) hq rfl rfl hH ?_
    simp only [pb,pc]
    refine tz 1 37 (.pointer (some ⟨b,0,none⟩)) hq rfl rfl hH ?_
    simp only [pb,pc]
    refine tz 2 38 (.pointer (some ⟨b,0,none⟩)) hq rfl rfl hH ?_
    simp only [pb,pc]
    refine tz 3 39 (.pointer (some ⟨b,12,none⟩)) hq rfl rfl hH ?_
    simp only [pb,pc]
    refine tq 4 40 (.string sg) hq rfl rfl (fun W hSw=>by (obtain ⟨c0,c12,c13,c14,c15,c63,c64,c65,c66,c67,c68,c69,c70,c71,c72,c73,c74,c75,c76,c77⟩:=HC.out _ (jB HB.out hSw);obtain ⟨-,y0,y1,y2,y3,y4⟩:=At.ty (f:=⟨k,m,q,s,ya,yn,yc⟩) (HA3.out.below hSw);simp only [Nat.zero_add] at y0 y1 y2 y3 y4;obtain ⟨-,x0a,x1a,x2a,x3a,x4a⟩:=HE.out.below (jB HB.out hSw);go_simp;try first|rfl|simp [*])) hH ?_
    simp only [pb,pc]
    refine tq 5 41 (.bool true) hq rfl rfl (fun W hSw=>by (obtain ⟨c0,c12,c13,c14,c15,c63,c64,c65,c66,c67,c68,c69,c70,c71,c72,c73,c74,c75,c76,c77⟩:=HC.out _ (jB HB.out hSw);obtain ⟨-,y0,y1,y2,y3,y4⟩:=At.ty (f:=⟨k,m,q,s,ya,yn,yc⟩) (HA3.out.below hSw);simp only [Nat.zero_add] at y0 y1 y2 y3 y4;obtain ⟨-,x0a,x1a,x2a,x3a,x4a⟩:=HE.out.below (jB HB.out hSw);go_simp;try first|rfl|simp [*])) hH ?_
    simp only [pb,pc]
    refine tz 6 42 (.bool true) hq rfl rfl hH ?_
    simp only [pb,pc]
    refine tq 7 43 (.agg #[.int .u8 (k:Int),.bool m,.int .i64 q,.int .i64 s,.slice ya yn yc]) hq rfl rfl (fun W hSw=>by (obtain ⟨c0,c12,c13,c14,c15,c63,c64,c65,c66,c67,c68,c69,c70,c71,c72,c73,c74,c75,c76,c77⟩:=HC.out _ (jB HB.out hSw);obtain ⟨-,y0,y1,y2,y3,y4⟩:=At.ty (f:=⟨k,m,q,s,ya,yn,yc⟩) (HA3.out.below hSw);simp only [Nat.zero_add] at y0 y1 y2 y3 y4;obtain ⟨-,x0a,x1a,x2a,x3a,x4a⟩:=HE.out.below (jB HB.out hSw);go_simp;try first|rfl|simp [*])) hH ?_
    simp only [pb,pc]
    refine tz 8 44 (.pointer (some ⟨b,0,none⟩)) hq rfl rfl hH ?_
    simp only [pb,pc]
    refine tz 9 45 (.pointer (some ⟨b,0,none⟩)) hq rfl rfl hH ?_
    simp only [pb,pc]
    refine tz 10 46 (.pointer (some ⟨b,77,none⟩)) hq rfl rfl hH ?_
    simp only [pb,pc]
    refine tq 11 47 (.slice (some ⟨g,off,none⟩) xn xc) hq rfl rfl (fun W hSw=>by (obtain ⟨c0,c12,c13,c14,c15,c63,c64,c65,c66,c67,c68,c69,c70,c71,c72,c73,c74,c75,c76,c77⟩:=HC.out _ (jB HB.out hSw);obtain ⟨-,y0,y1,y2,y3,y4⟩:=At.ty (f:=⟨k,m,q,s,ya,yn,yc⟩) (HA3.out.below hSw);simp only [Nat.zero_add] at y0 y1 y2 y3 y4;obtain ⟨-,x0a,x1a,x2a,x3a,x4a⟩:=HE.out.below (jB HB.out hSw);go_simp;try first|rfl|simp [*])) hH ?_
    simp only [pb,pc]
    refine tz 12 48 (.pointer (some ⟨g,off,none⟩)) hq rfl rfl hH ?_
    simp only [pb,pc]
    refine tq 13 49 (.agg #[.int .u8 (ok:Int),.bool om,.int .i64 orr,.int .i64 osx,.slice oax onx ocx]) hq rfl rfl (fun W hSw=>by (obtain ⟨c0,c12,c13,c14,c15,c63,c64,c65,c66,c67,c68,c69,c70,c71,c72,c73,c74,c75,c76,c77⟩:=HC.out _ (jB HB.out hSw);obtain ⟨-,y0,y1,y2,y3,y4⟩:=At.ty (f:=⟨k,m,q,s,ya,yn,yc⟩) (HA3.out.below hSw);simp only [Nat.zero_add] at y0 y1 y2 y3 y4;obtain ⟨-,x0a,x1a,x2a,x3a,x4a⟩:=HE.out.below (jB HB.out hSw);go_simp;try first|rfl|simp [*])) hH ?_
    simp only [pb,pc]
    refine aR1 14 rfl (fun K hK=>?_)
    go_simp
    refine hK.out _ _ (belA hH) (fun hH=>?_)
    clear hK K
    try simp only [Act.put,List.setIfInBounds_toArray,pb,pc]
    refine aR1 15 rfl (fun K hK=>?_)
    go_simp
    refine (CU1.out wc.drew (belN HB.out 1)).mono ?_
    rintro e v1 ⟨rfl,hb1⟩
    have hS1:Below wc.heap.size wc v1:=jB (belN bR 1) hb1
    go_wp2_with fail
    refine hK.out _ _ hS1 (fun hH=>?_)
    clear hK K
    try simp only [Act.put,List.setIfInBounds_toArray,pb,pc]
    have HS1:=jH hS1
    clear hb1 hS1
    refine tz 16 52 (.bool false) hq rfl rfl hH ?_
    simp only [pb,pc]
    refine tz 17 53 (.bool false) hq rfl rfl hH ?_
    simp only [pb,pc]
    refine tz 18 54 (.pointer (some ⟨b,0,none⟩)) hq rfl rfl hH ?_
    simp only [pb,pc]
    refine tz 19 55 (.pointer (some ⟨b,0,none⟩)) hq rfl rfl hH ?_
    simp only [pb,pc]
    refine tz 20 56 (.pointer (some ⟨b,0,none⟩)) hq rfl rfl hH ?_
    simp only [pb,pc]
    refine tz 21 57 (.pointer (some ⟨b,12,none⟩)) hq rfl rfl hH ?_
    simp only [pb,pc]
    refine tq 22 58 (.string sg) hq rfl rfl (fun W hSw=>by (obtain ⟨c0,c12,c13,c14,c15,c63,c64,c65,c66,c67,c68,c69,c70,c71,c72,c73,c74,c75,c76,c77⟩:=HC.out _ (jB HB.out hSw);obtain ⟨-,y0,y1,y2,y3,y4⟩:=At.ty (f:=⟨k,m,q,s,ya,yn,yc⟩) (HA3.out.below hSw);simp only [Nat.zero_add] at y0 y1 y2 y3 y4;obtain ⟨-,x0a,x1a,x2a,x3a,x4a⟩:=HE.out.below (jB HB.out hSw);go_simp;try first|rfl|simp [*])) hH ?_
    simp only [pb,pc]
    refine tq 23 59 (.bool false) hq rfl rfl (fun W hSw=>by (obtain ⟨c0,c12,c13,c14,c15,c63,c64,c65,c66,c67,c68,c69,c70,c71,c72,c73,c74,c75,c76,c77⟩:=HC.out _ (jB HB.out hSw);obtain ⟨-,y0,y1,y2,y3,y4⟩:=At.ty (f:=⟨k,m,q,s,ya,yn,yc⟩) (HA3.out.below hSw);simp only [Nat.zero_add] at y0 y1 y2 y3 y4;obtain ⟨-,x0a,x1a,x2a,x3a,x4a⟩:=HE.out.below (jB HB.out hSw);go_simp;try first|rfl|simp [*])) hH ?_
    simp only [pb,pc]
    refine tz 24 60 (.bool false) hq rfl rfl hH ?_
    simp only [pb,pc]
    refine sq 25 61 hq rfl rfl hH ?_
    simp only [pb,pc]
    refine sq 26 62 hq rfl rfl hH ?_
    simp only [pb,pc]
    refine sq 27 63 hq rfl rfl hH ?_
    simp only [pb,pc]
    refine sq 28 64 hq rfl rfl hH ?_
    simp only [pb,pc]
    refine sq 29 65 hq rfl rfl hH ?_
    simp only [pb,pc]
    refine sq 30 66 hq rfl rfl hH ?_
    simp only [pb,pc]
    refine sq 31 67 hq rfl rfl hH ?_
    simp only [pb,pc]
    refine sq 32 68 hq rfl rfl hH ?_
    simp only [pb,pc]
    refine sq 33 69 hq rfl rfl hH ?_
    simp only [pb,pc]
    refine tz 34 70 (.bool false) hq rfl rfl hH ?_
    simp only [pb,pc]
    refine tz 35 71 (.bool false) hq rfl rfl hH ?_
    simp only [pb,pc]
    refine tz 36 2 (.bool false) hq rfl rfl hH ?_
    simp only [pb,pc]
    refine wpAnyH_done (by kernel_rfl) ?_ _
    go_wp2_with fail
    go_ret
    exact ⟨rfl,jB HB.out HS1.out⟩
 ·have f45:(sg.toList == [45])=false:=by simpa using h45
  by_cases h33:sg.toList=[33]
  ·have f33:(sg.toList == [33])=true:=by rw [h33];rfl
   have hr3:r=u2:=by rw [hr2,h33];rfl
   subst hr3
   clear hr2
   obtain ⟨c0,c12,c13,c14,c15,c63,c64,c65,c66,c67,c68,c69,c70,c71,c72,c73,c74,c75,c76,c77⟩:=HC.out _ bR
   go_enter Tryz.func178,Tryz.ntmps178
   go_upto_region 1 with fail
   go_cut [3,4] (fun v u V=>∃ b3 b4,v=.pointer (some ⟨b3,0,none⟩)∧u=.pointer (some ⟨b4,0,none⟩)∧At V b3 (tyO k m q s ya yn yc)∧At V b4 (tyO k2 m2 q2 s2 ya2 yn2 yc2)∧Below w.heap.size w V)
   case first =>
    go_big_region
    all_goals (go_wp2_with fail)
    all_goals (go_meet)
    all_goals first|exact ⟨_,_,rfl,rfl,((At.new _ _).alloc _).drew,(at_snd _ _ _).drew,(belA (belA bR)).drew⟩|exact ⟨_,_,rfl,rfl,(at_snd _ _ _).drew,((At.new _ _).alloc _).drew,(belA (belA bR)).drew⟩
   case rest =>
    obtain ⟨b3,b4,rfl,rfl,hA3,hA4,hB⟩:=hcut
    have HA3:=jH hA3
    have HA4:=jH hA4
    have HB:=jH hB
    clear hA3 hA4 hB
    clear c0 c12 c13 c14 c15 c63 c64 c65 c66 c67 c68 c69 c70 c71 c72 c73 c74 c75 c76 c77
    obtain ⟨c0,c12,c13,c14,c15,c63,c64,c65,c66,c67,c68,c69,c70,c71,c72,c73,c74,c75,c76,c77⟩:=HC.out _ HB.out
    go_upto_region 8 with fail
    clear c0 c12 c13 c14 c15 c63 c64 c65 c66 c67 c68 c69 c70 c71 c72 c73 c74 c75 c76 c77
    refine beginH (S:=fun V=>Below wc.heap.size wc V) (fun _ _ _ _ _ h=>h) (by kernel_rfl) (belN bR 1) (fun hq hH=>?_)
    refine tz 0 36 (.pointer (some ⟨b,0,none⟩)) hq rfl rfl hH ?_
    simp only [pb,pc]
    refine tz 1 37 (.pointer (some ⟨b,0,none⟩)) hq rfl rfl hH ?_
    simp only [pb,pc]
    refine tz 2 38 (.pointer (some ⟨b,0,none⟩)) hq rfl rfl hH ?_
    simp only [pb,pc]
    refine tz 3 39 (.pointer (some ⟨b,12,none⟩)) hq rfl rfl hH ?_
    simp only [pb,pc]
    refine tq 4 40 (.string sg) hq rfl rfl (fun W hSw=>by (obtain ⟨c0,c12,c13,c14,c15,c63,c64,c65,c66,c67,c68,c69,c70,c71,c72,c73,c74,c75,c76,c77⟩:=HC.out _ (jB HB.out hSw);obtain ⟨-,y0,y1,y2,y3,y4⟩:=At.ty (f:=⟨k,m,q,s,ya,yn,yc⟩) (HA3.out.below hSw);simp only [Nat.zero_add] at y0 y1 y2 y3 y4;obtain ⟨-,x0a,x1a,x2a,x3a,x4a⟩:=HE.out.below (jB HB.out hSw);go_simp;try first|rfl|simp [*])) hH ?_
    simp only [pb,pc]
    refine tq 5 41 (.bool false) hq rfl rfl (fun W hSw=>by (obtain ⟨c0,c12,c13,c14,c15,c63,c64,c65,c66,c67,c68,c69,c70,c71,c72,c73,c74,c75,c76,c77⟩:=HC.out _ (jB HB.out hSw);obtain ⟨-,y0,y1,y2,y3,y4⟩:=At.ty (f:=⟨k,m,q,s,ya,yn,yc⟩) (HA3.out.below hSw);simp only [Nat.zero_add] at y0 y1 y2 y3 y4;obtain ⟨-,x0a,x1a,x2a,x3a,x4a⟩:=HE.out.below (jB HB.out hSw);go_simp;try first|rfl|simp [*])) hH ?_
    simp only [pb,pc]
    refine tz 6 42 (.bool false) hq rfl rfl hH ?_
    simp only [pb,pc]
    refine sq 7 43 hq rfl rfl hH ?_
    simp only [pb,pc]
    refine sq 8 44 hq rfl rfl hH ?_
    simp only [pb,pc]
    refine sq 9 45 hq rfl rfl hH ?_
    simp only [pb,pc]
    refine sq 10 46 hq rfl rfl hH ?_
    simp only [pb,pc]
    refine sq 11 47 hq rfl rfl hH ?_
    simp only [pb,pc]
    refine sq 12 48 hq rfl rfl hH ?_
    simp only [pb,pc]
    refine sq 13 49 hq rfl rfl hH ?_
    simp only [pb,pc]
    refine sq 14 50 hq rfl rfl hH ?_
    simp only [pb,pc]
    refine sq 15 51 hq rfl rfl hH ?_
    simp only [pb,pc]
    refine tz 16 52 (.bool false) hq rfl rfl hH ?_
    simp only [pb,pc]
    refine tz 17 53 (.bool false) hq rfl rfl hH ?_
    simp only [pb,pc]
    refine tz 18 54 (.pointer (some ⟨b,0,none⟩)) hq rfl rfl hH ?_
    simp only [pb,pc]
    refine tz 19 55 (.pointer (some ⟨b,0,none⟩)) hq rfl rfl hH ?_
    simp only [pb,pc]
    refine tz 20 56 (.pointer (some ⟨b,0,none⟩)) hq rfl rfl hH ?_
    simp only [pb,pc]
    refine tz 21 57 (.pointer (some ⟨b,12,none⟩)) hq rfl rfl hH ?_
    simp only [pb,pc]
    refine tq 22 58 (.string sg) hq rfl rfl (fun W hSw=>by (obtain ⟨c0,c12,c13,c14,c15,c63,c64,c65,c66,c67,c68,c69,c70,c71,c72,c73,c74,c75,c76,c77⟩:=HC.out _ (jB HB.out hSw);obtain ⟨-,y0,y1,y2,y3,y4⟩:=At.ty (f:=⟨k,m,q,s,ya,yn,yc⟩) (HA3.out.below hSw);simp only [Nat.zero_add] at y0 y1 y2 y3 y4;obtain ⟨-,x0a,x1a,x2a,x3a,x4a⟩:=HE.out.below (jB HB.out hSw);go_simp;try first|rfl|simp [*])) hH ?_
    simp only [pb,pc]
    refine tq 23 59 (.bool true) hq rfl rfl (fun W hSw=>by (obtain ⟨c0,c12,c13,c14,c15,c63,c64,c65,c66,c67,c68,c69,c70,c71,c72,c73,c74,c75,c76,c77⟩:=HC.out _ (jB HB.out hSw);obtain ⟨-,y0,y1,y2,y3,y4⟩:=At.ty (f:=⟨k,m,q,s,ya,yn,yc⟩) (HA3.out.below hSw);simp only [Nat.zero_add] at y0 y1 y2 y3 y4;obtain ⟨-,x0a,x1a,x2a,x3a,x4a⟩:=HE.out.below (jB HB.out hSw);go_simp;try first|rfl|simp [*])) hH ?_
    simp only [pb,pc]
    refine tz 24 60 (.bool true) hq rfl rfl hH ?_
    simp only [pb,pc]
    refine tq 25 61 (.agg #[.int .u8 (k:Int),.bool m,.int .i64 q,.int .i64 s,.slice ya yn yc]) hq rfl rfl (fun W hSw=>by (obtain ⟨c0,c12,c13,c14,c15,c63,c64,c65,c66,c67,c68,c69,c70,c71,c72,c73,c74,c75,c76,c77⟩:=HC.out _ (jB HB.out hSw);obtain ⟨-,y0,y1,y2,y3,y4⟩:=At.ty (f:=⟨k,m,q,s,ya,yn,yc⟩) (HA3.out.below hSw);simp only [Nat.zero_add] at y0 y1 y2 y3 y4;obtain ⟨-,x0a,x1a,x2a,x3a,x4a⟩:=HE.out.below (jB HB.out hSw);go_simp;try first|rfl|simp [*])) hH ?_
    simp only [pb,pc]
    refine tz 26 62 (.pointer (some ⟨b,0,none⟩)) hq rfl rfl hH ?_
    simp only [pb,pc]
    refine tz 27 63 (.pointer (some ⟨b,0,none⟩)) hq rfl rfl hH ?_
    simp only [pb,pc]
    refine tz 28 64 (.pointer (some ⟨b,77,none⟩)) hq rfl rfl hH ?_
    simp only [pb,pc]
    refine tq 29 65 (.slice (some ⟨g,off,none⟩) xn xc) hq rfl rfl (fun W hSw=>by (obtain ⟨c0,c12,c13,c14,c15,c63,c64,c65,c66,c67,c68,c69,c70,c71,c72,c73,c74,c75,c76,c77⟩:=HC.out _ (jB HB.out hSw);obtain ⟨-,y0,y1,y2,y3,y4⟩:=At.ty (f:=⟨k,m,q,s,ya,yn,yc⟩) (HA3.out.below hSw);simp only [Nat.zero_add] at y0 y1 y2 y3 y4;obtain ⟨-,x0a,x1a,x2a,x3a,x4a⟩:=HE.out.below (jB HB.out hSw);go_simp;try first|rfl|simp [*])) hH ?_
    simp only [pb,pc]
    refine tz 30 66 (.pointer (some ⟨g,off,none⟩)) hq rfl rfl hH ?_
    simp only [pb,pc]
    refine tq 31 67 (.agg #[.int .u8 (ok:Int),.bool om,.int .i64 orr,.int .i64 osx,.slice oax onx ocx]) hq rfl rfl (fun W hSw=>by (obtain ⟨c0,c12,c13,c14,c15,c63,c64,c65,c66,c67,c68,c69,c70,c71,c72,c73,c74,c75,c76,c77⟩:=HC.out _ (jB HB.out hSw);obtain ⟨-,y0,y1,y2,y3,y4⟩:=At.ty (f:=⟨k,m,q,s,ya,yn,yc⟩) (HA3.out.below hSw);simp only [Nat.zero_add] at y0 y1 y2 y3 y4;obtain ⟨-,x0a,x1a,x2a,x3a,x4a⟩:=HE.out.below (jB HB.out hSw);go_simp;try first|rfl|simp [*])) hH ?_
    simp only [pb,pc]
    refine aR1 32 rfl (fun K hK=>?_)
    go_simp
    refine hK.out _ _ (belA hH) (fun hH=>?_)
    clear hK K
    try simp only [Act.put,List.setIfInBounds_toArray,pb,pc]
    refine aR1 33 rfl (fun K hK=>?_)
    go_simp
    refine (CU2.out wc.drew (belN HB.out 1)).mono ?_
    rintro e v1 ⟨rfl,hb1⟩
    have hS1:Below wc.heap.size wc v1:=jB (belN bR 1) hb1
    go_wp2_with fail
    refine hK.out _ _ hS1 (fun hH=>?_)
    clear hK K
    try simp only [Act.put,List.setIfInBounds_toArray,pb,pc]
    have HS1:=jH hS1
    clear hb1 hS1
    refine tz 34 70 (.bool r) hq rfl rfl hH ?_
    simp only [pb,pc]
    refine tz 35 71 (.bool r) hq rfl rfl hH ?_
    simp only [pb,pc]
    refine tz 36 2 (.bool r) hq rfl rfl hH ?_
    simp only [pb,pc]
    refine wpAnyH_done (by kernel_rfl) ?_ _
    go_wp2_with fail
    go_ret
    exact ⟨rfl,jB HB.out HS1.out⟩
  ·have f33:(sg.toList == [33])=false:=by simpa using h33
   have hr3:r=false:=by rw [hr2,decide_eq_false h45,decide_eq_false h33];rfl
   subst hr3
   clear hr2
   obtain ⟨c0,c12,c13,c14,c15,c63,c64,c65,c66,c67,c68,c69,c70,c71,c72,c73,c74,c75,c76,c77⟩:=HC.out _ bR
   go_enter Tryz.func178,Tryz.ntmps178
   go_upto_region 1 with fail
   go_cut [3,4] (fun v u V=>∃ b3 b4,v=.pointer (some ⟨b3,0,none⟩)∧u=.pointer (some ⟨b4,0,none⟩)∧At V b3 (tyO k m q s ya yn yc)∧At V b4 (tyO k2 m2 q2 s2 ya2 yn2 yc2)∧Below w.heap.size w V)
   case first =>
    go_big_region
    all_goals (go_wp2_with fail)
    all_goals (go_meet)
    all_goals first|exact ⟨_,_,rfl,rfl,((At.new _ _).alloc _).drew,(at_snd _ _ _).drew,(belA (belA bR)).drew⟩|exact ⟨_,_,rfl,rfl,(at_snd _ _ _).drew,((At.new _ _).alloc _).drew,(belA (belA bR)).drew⟩
   case rest =>
    obtain ⟨b3,b4,rfl,rfl,hA3,hA4,hB⟩:=hcut
    have HA3:=jH hA3
    have HA4:=jH hA4
    have HB:=jH hB
    clear hA3 hA4 hB
    clear c0 c12 c13 c14 c15 c63 c64 c65 c66 c67 c68 c69 c70 c71 c72 c73 c74 c75 c76 c77
    obtain ⟨c0,c12,c13,c14,c15,c63,c64,c65,c66,c67,c68,c69,c70,c71,c72,c73,c74,c75,c76,c77⟩:=HC.out _ HB.out
    go_upto_region 8 with fail
    clear c0 c12 c13 c14 c15 c63 c64 c65 c66 c67 c68 c69 c70 c71 c72 c73 c74 c75 c76 c77
    refine beginH (S:=fun V=>Below wc.heap.size wc V) (fun _ _ _ _ _ h=>h) (by kernel_rfl) (belN bR 1) (fun hq hH=>?_)
    refine tz 0 36 (.pointer (some ⟨b,0,none⟩)) hq rfl rfl hH ?_
    simp only [pb,pc]
    refine tz 1 37 (.pointer (some ⟨b,0,none⟩)) hq rfl rfl hH ?_
    simp only [pb,pc]
    refine tz 2 38 (.pointer (some ⟨b,0,none⟩)) hq rfl rfl hH ?_
    simp only [pb,pc]
    refine tz 3 39 (.pointer (some ⟨b,12,none⟩)) hq rfl rfl hH ?_
    simp only [pb,pc]
    refine tq 4 40 (.string sg) hq rfl rfl (fun W hSw=>by (obtain ⟨c0,c12,c13,c14,c15,c63,c64,c65,c66,c67,c68,c69,c70,c71,c72,c73,c74,c75,c76,c77⟩:=HC.out _ (jB HB.out hSw);obtain ⟨-,y0,y1,y2,y3,y4⟩:=At.ty (f:=⟨k,m,q,s,ya,yn,yc⟩) (HA3.out.below hSw);simp only [Nat.zero_add] at y0 y1 y2 y3 y4;obtain ⟨-,x0a,x1a,x2a,x3a,x4a⟩:=HE.out.below (jB HB.out hSw);go_simp;try first|rfl|simp [*])) hH ?_
    simp only [pb,pc]
    refine tq 5 41 (.bool false) hq rfl rfl (fun W hSw=>by (obtain ⟨c0,c12,c13,c14,c15,c63,c64,c65,c66,c67,c68,c69,c70,c71,c72,c73,c74,c75,c76,c77⟩:=HC.out _ (jB HB.out hSw);obtain ⟨-,y0,y1,y2,y3,y4⟩:=At.ty (f:=⟨k,m,q,s,ya,yn,yc⟩) (HA3.out.below hSw);simp only [Nat.zero_add] at y0 y1 y2 y3 y4;obtain ⟨-,x0a,x1a,x2a,x3a,x4a⟩:=HE.out.below (jB HB.out hSw);go_simp;try first|rfl|simp [*])) hH ?_
    simp only [pb,pc]
    refine tz 6 42 (.bool false) hq rfl rfl hH ?_
    simp only [pb,pc]
    refine sq 7 43 hq rfl rfl hH ?_
    simp only [pb,pc]
    refine sq 8 44 hq rfl rfl hH ?_
    simp only [pb,pc]
    refine sq 9 45 hq rfl rfl hH ?_
    simp only [pb,pc]
    refine sq 10 46 hq rfl rfl hH ?_
    simp only [pb,pc]
    refine sq 11 47 hq rfl rfl hH ?_
    simp only [pb,pc]
    refine sq 12 48 hq rfl rfl hH ?_
    simp only [pb,pc]
    refine sq 13 49 hq rfl rfl hH ?_
    simp only [pb,pc]
    refine sq 14 50 hq rfl rfl hH ?_
    simp only [pb,pc]
    refine sq 15 51 hq rfl rfl hH ?_
    simp only [pb,pc]
    refine tz 16 52 (.bool false) hq rfl rfl hH ?_
    simp only [pb,pc]
    refine tz 17 53 (.bool false) hq rfl rfl hH ?_
    simp only [pb,pc]
    refine tz 18 54 (.pointer (some ⟨b,0,none⟩)) hq rfl rfl hH ?_
    simp only [pb,pc]
    refine tz 19 55 (.pointer (some ⟨b,0,none⟩)) hq rfl rfl hH ?_
    simp only [pb,pc]
    refine tz 20 56 (.pointer (some ⟨b,0,none⟩)) hq rfl rfl hH ?_
    simp only [pb,pc]
    refine tz 21 57 (.pointer (some ⟨b,12,none⟩)) hq rfl rfl hH ?_
    simp only [pb,pc]
    refine tq 22 58 (.string sg) hq rfl rfl (fun W hSw=>by (obtain ⟨c0,c12,c13,c14,c15,c63,c64,c65,c66,c67,c68,c69,c70,c71,c72,c73,c74,c75,c76,c77⟩:=HC.out _ (jB HB.out hSw);obtain ⟨-,y0,y1,y2,y3,y4⟩:=At.ty (f:=⟨k,m,q,s,ya,yn,yc⟩) (HA3.out.below hSw);simp only [Nat.zero_add] at y0 y1 y2 y3 y4;obtain ⟨-,x0a,x1a,x2a,x3a,x4a⟩:=HE.out.below (jB HB.out hSw);go_simp;try first|rfl|simp [*])) hH ?_
    simp only [pb,pc]
    refine tq 23 59 (.bool false) hq rfl rfl (fun W hSw=>by (obtain ⟨c0,c12,c13,c14,c15,c63,c64,c65,c66,c67,c68,c69,c70,c71,c72,c73,c74,c75,c76,c77⟩:=HC.out _ (jB HB.out hSw);obtain ⟨-,y0,y1,y2,y3,y4⟩:=At.ty (f:=⟨k,m,q,s,ya,yn,yc⟩) (HA3.out.below hSw);simp only [Nat.zero_add] at y0 y1 y2 y3 y4;obtain ⟨-,x0a,x1a,x2a,x3a,x4a⟩:=HE.out.below (jB HB.out hSw);go_simp;try first|rfl|simp [*])) hH ?_
    simp only [pb,pc]
    refine tz 24 60 (.bool false) hq rfl rfl hH ?_
    simp only [pb,pc]
    refine sq 25 61 hq rfl rfl hH ?_
    simp only [pb,pc]
    refine sq 26 62 hq rfl rfl hH ?_
    simp only [pb,pc]
    refine sq 27 63 hq rfl rfl hH ?_
    simp only [pb,pc]
    refine sq 28 64 hq rfl rfl hH ?_
    simp only [pb,pc]
    refine sq 29 65 hq rfl rfl hH ?_
    simp only [pb,pc]
    refine sq 30 66 hq rfl rfl hH ?_
    simp only [pb,pc]
    refine sq 31 67 hq rfl rfl hH ?_
    simp only [pb,pc]
    refine sq 32 68 hq rfl rfl hH ?_
    simp only [pb,pc]
    refine sq 33 69 hq rfl rfl hH ?_
    simp only [pb,pc]
    refine tz 34 70 (.bool false) hq rfl rfl hH ?_
    simp only [pb,pc]
    refine tz 35 71 (.bool false) hq rfl rfl hH ?_
    simp only [pb,pc]
    refine tz 36 2 (.bool false) hq rfl rfl hH ?_
    simp only [pb,pc]
    refine wpAnyH_done (by kernel_rfl) ?_ _
    go_wp2_with fail
    go_ret
    exact ⟨rfl,belN HB.out _⟩
end Go.Proofs.YtmjenlogbkbgnaaGreatDoor
