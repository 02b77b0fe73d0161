import Derived.Test.YtmjenlogbkbgnaaGreatDoorB19
namespace Go.Proofs.YtmjenlogbkbgnaaGreatDoor
open Go.RowKit Go.Shelf
set_option linter.unusedVariables false
set_option linter.unusedSimpArgs false
set_option maxRecDepth 100000
set_option maxHeartbeats 8000000
theorem op_binary {w0 w:World} (hB0:Below w0.heap.size w0 w) (b:Nat) (s:Scv) (hs:ScS w b s) (t f:Ch) (os:List Ch) (hT:TyAt w s.tw.f t.ty) (hF:TyAt w s.fw.f f.ty) (hL:LcAt w s.ta s.tn s.tc (os.map Ch.ty)) (hxn:s.tn≤2000000) (hO:∀ c∈os,Ok c) (hop:s.pv.op=2) (r:Bool) (hr:r=binB s.pv.sg.toList (allK 1 os) (allK 2 os) (allK 1 [t]) (allK 2 [t])) :
  Calls Tryz.prog 178 #[.pointer (some ⟨b,0,none⟩)] w fun e w'=>e=.returned (.bool r)∧Below w.heap.size w w':=by
 obtain ⟨⟨op,⟨tl,ta,tn,tc⟩,⟨ak,an,al,aa,am,ac⟩,⟨bk,bn,bl,ba,bm,bc⟩,ra,rn,rc,sg,⟨fl,fa,fm,fc⟩,mu,fn,st,nx,el,ps⟩,sa,sn,sc,ua,un,ucap,mn,nm,lv,oa,on,oc,pa,la,ln,lc,na,nn,nc,qa,qn,qc,dr,⟨⟨k,m,q,s,ya,yn,yc⟩,tbr,tbs⟩,⟨⟨k2,m2,q2,s2,ya2,yn2,yc2⟩,fbr,fbs⟩,xa,xn,xc⟩:=s
 have hlt:b<w.heap.size:=hs.lt
 have hop2:op=2:=hop
 subst hop2
 have HC:Hid (∀ W,Below w.heap.size w W→W.cell? ⟨b,0,none⟩=some (.int .u8 2)∧W.cell? ⟨b,12,none⟩=some (.string sg)∧W.cell? ⟨b,13,none⟩=some (.int .i64 fl)∧W.cell? ⟨b,14,none⟩=some (.slice fa fm fc)∧W.cell? ⟨b,15,none⟩=some (.bool mu)∧W.cell? ⟨b,63,none⟩=some (.int .u8 (k:Int))∧W.cell? ⟨b,64,none⟩=some (.bool m)∧W.cell? ⟨b,65,none⟩=some (.int .i64 q)∧W.cell? ⟨b,66,none⟩=some (.int .i64 s)∧W.cell? ⟨b,67,none⟩=some (.slice ya yn yc)∧W.cell? ⟨b,68,none⟩=some (.bool tbr)∧W.cell? ⟨b,69,none⟩=some (.bool tbs)∧W.cell? ⟨b,70,none⟩=some (.int .u8 (k2:Int))∧W.cell? ⟨b,71,none⟩=some (.bool m2)∧W.cell? ⟨b,72,none⟩=some (.int .i64 q2)∧W.cell? ⟨b,73,none⟩=some (.int .i64 s2)∧W.cell? ⟨b,74,none⟩=some (.slice ya2 yn2 yc2)∧W.cell? ⟨b,75,none⟩=some (.bool fbr)∧W.cell? ⟨b,76,none⟩=some (.bool fbs)∧W.cell? ⟨b,77,none⟩=some (.slice xa xn xc)):=fun W hW=>⟨(hs.bel hW).pt.2.1,(hs.bel hW).pt.2.2.2.2.2.2.2.2.2.2.2.2.2.1,(hs.bel hW).pt.2.2.2.2.2.2.2.2.2.2.2.2.2.2.1,(hs.bel hW).pt.2.2.2.2.2.2.2.2.2.2.2.2.2.2.2.1,(hs.bel hW).pt.2.2.2.2.2.2.2.2.2.2.2.2.2.2.2.2.1,(hs.bel hW).tw.2.1,(hs.bel hW).tw.2.2.1,(hs.bel hW).tw.2.2.2.1,(hs.bel hW).tw.2.2.2.2.1,(hs.bel hW).tw.2.2.2.2.2,(hs.bel hW).t68,(hs.bel hW).t69,(hs.bel hW).fw.2.1,(hs.bel hW).fw.2.2.1,(hs.bel hW).fw.2.2.2.1,(hs.bel hW).fw.2.2.2.2.1,(hs.bel hW).fw.2.2.2.2.2,(hs.bel hW).f75,(hs.bel hW).f76,(hs.bel hW).c77⟩
 have CB:Hid (∀ W,Below w.heap.size w W→Calls Tryz.prog 196 #[.pointer (some ⟨b,0,none⟩)] W fun e w'=>e=.returned (.bool r)∧Below W.heap.size W w'):=fun W hW=>binary_any W b sg xa xn xc k m q s ya yn yc (fun V hV=>by obtain ⟨c0,c12,c13,c14,c15,c63,c64,c65,c66,c67,c68,c69,c70,c71,c72,c73,c74,c75,c76,c77⟩:=HC.out V (jB hW hV);exact ⟨c12,c77,c63,c64,c65,c66,c67⟩) os hxn (hL.bel hW) t (hT.bel hW) r hr
 clear hs hT hF hL hO hr hxn hB0
 obtain ⟨c0,c12,c13,c14,c15,c63,c64,c65,c66,c67,c68,c69,c70,c71,c72,c73,c74,c75,c76,c77⟩:=HC.out _ bR
 go_enter Tryz.func178,Tryz.ntmps178
 go_upto_region 1 with fail
 go_cut [3,4] (fun v u V=>∃ b3 b4,v=.pointer (some ⟨b3,0,none⟩)∧u=.pointer (some ⟨b4,0,none⟩)∧At V b3 (tyO k m q s ya yn yc)∧At V b4 (tyO k2 m2 q2 s2 ya2 yn2 yc2)∧Below w.heap.size w V)
 case first =>
  go_big_region
  all_goals (go_wp2_with fail)
  all_goals (go_meet)
  all_goals first|exact ⟨_,_,rfl,rfl,((At.new _ _).alloc _).drew,(at_snd _ _ _).drew,(belA (belA bR)).drew⟩|exact ⟨_,_,rfl,rfl,(at_snd _ _ _).drew,((At.new _ _).alloc _).drew,(belA (belA bR)).drew⟩
 case rest =>
  obtain ⟨b3,b4,rfl,rfl,hA3,hA4,hB⟩:=hcut
  have HA3:=jH hA3
  have HA4:=jH hA4
  have HB:=jH hB
  clear hA3 hA4 hB
  clear c0 c12 c13 c14 c15 c63 c64 c65 c66 c67 c68 c69 c70 c71 c72 c73 c74 c75 c76 c77
  obtain ⟨c0,c12,c13,c14,c15,c63,c64,c65,c66,c67,c68,c69,c70,c71,c72,c73,c74,c75,c76,c77⟩:=HC.out _ HB.out
  go_wp2_with (go_at_call 196;refine (CB.out _ HB.out).mono ?_;rintro e w1 ⟨rfl,hb1⟩;have HF1:=jH (jB HB.out hb1);clear hb1)
  go_ret
  exact ⟨rfl,HF1.out⟩
theorem op_make {w0 w:World} (hB0:Below w0.heap.size w0 w) (b:Nat) (s:Scv) (hs:ScS w b s) (t f:Ch) (os:List Ch) (hT:TyAt w s.tw.f t.ty) (hF:TyAt w s.fw.f f.ty) (hL:LcAt w s.ta s.tn s.tc (os.map Ch.ty)) (hxn:s.tn≤2000000) (hO:∀ c∈os,Ok c) (hop:s.pv.op=6) {x:Sc} (hX:SX w0 s.a s.n s.cap s.la s.ln s.lc x) (hot:t.ok s.n) (r:Bool) (hr:r=mkB x.fc s.pv.st os t) :
  Calls Tryz.prog 178 #[.pointer (some ⟨b,0,none⟩)] w fun e w'=>e=.returned (.bool r)∧Below w.heap.size w w':=by
 obtain ⟨⟨op,⟨tl,ta,tn,tc⟩,⟨ak,an,al,aa,am,ac⟩,⟨bk,bn,bl,ba,bm,bc⟩,ra,rn,rc,sg,⟨fl,fa,fm,fc⟩,mu,fn,st,nx,el,ps⟩,sa,sn,sc,ua,un,ucap,mn,nm,lv,oa,on,oc,pa,la,ln,lc,na,nn,nc,qa,qn,qc,dr,⟨⟨k,m,q,s,ya,yn,yc⟩,tbr,tbs⟩,⟨⟨k2,m2,q2,s2,ya2,yn2,yc2⟩,fbr,fbs⟩,xa,xn,xc⟩:=s
 have hlt:b<w.heap.size:=hs.lt
 have hop2:op=6:=hop
 subst hop2
 have HC:Hid (∀ W,Below w.heap.size w W→W.cell? ⟨b,0,none⟩=some (.int .u8 6)∧W.cell? ⟨b,12,none⟩=some (.string sg)∧W.cell? ⟨b,13,none⟩=some (.int .i64 fl)∧W.cell? ⟨b,14,none⟩=some (.slice fa fm fc)∧W.cell? ⟨b,15,none⟩=some (.bool mu)∧W.cell? ⟨b,63,none⟩=some (.int .u8 (k:Int))∧W.cell? ⟨b,64,none⟩=some (.bool m)∧W.cell? ⟨b,65,none⟩=some (.int .i64 q)∧W.cell? ⟨b,66,none⟩=some (.int .i64 s)∧W.cell? ⟨b,67,none⟩=some (.slice ya yn yc)∧W.cell? ⟨b,68,none⟩=some (.bool tbr)∧W.cell? ⟨b,69,none⟩=some (.bool tbs)∧W.cell? ⟨b,70,none⟩=some (.int .u8 (k2:Int))∧W.cell? ⟨b,71,none⟩=some (.bool m2)∧W.cell? ⟨b,72,none⟩=some (.int .i64 q2)∧W.cell? ⟨b,73,none⟩=some (.int .i64 s2)∧W.cell? ⟨b,74,none⟩=some (.slice ya2 yn2 yc2)∧W.cell? ⟨b,75,none⟩=some (.bool fbr)∧W.cell? ⟨b,76,none⟩=some (.bool fbs)∧W.cell? ⟨b,77,none⟩=some (.slice xa xn xc)):=fun W hW=>⟨(hs.bel hW).pt.2.1,(hs.bel hW).pt.2.2.2.2.2.2.2.2.2.2.2.2.2.1,(hs.bel hW).pt.2.2.2.2.2.2.2.2.2.2.2.2.2.2.1,(hs.bel hW).pt.2.2.2.2.2.2.2.2.2.2.2.2.2.2.2.1,(hs.bel hW).pt.2.2.2.2.2.2.2.2.2.2.2.2.2.2.2.2.1,(hs.bel hW).tw.2.1,(hs.bel hW).tw.2.2.1,(hs.bel hW).tw.2.2.2.1,(hs.bel hW).tw.2.2.2.2.1,(hs.bel hW).tw.2.2.2.2.2,(hs.bel hW).t68,(hs.bel hW).t69,(hs.bel hW).fw.2.1,(hs.bel hW).fw.2.2.1,(hs.bel hW).fw.2.2.2.1,(hs.bel hW).fw.2.2.2.2.1,(hs.bel hW).fw.2.2.2.2.2,(hs.bel hW).f75,(hs.bel hW).f76,(hs.bel hW).c77⟩
 have CB:Hid (∀ W,Below w.heap.size w W→Calls Tryz.prog 198 #[.pointer (some ⟨b,0,none⟩)] W fun e w'=>e=.returned (.bool r)∧Below W.heap.size W w'):=fun W hW=>make_any (jB hB0 hW) b st sa xa sn sc xn xc k m q s ya yn yc (fun V hV=>by obtain ⟨c0,c12,c13,c14,c15,c63,c64,c65,c66,c67,c68,c69,c70,c71,c72,c73,c74,c75,c76,c77⟩:=HC.out V (jB hW hV);exact ⟨(hs.bel (jB hW hV)).pt.2.2.2.2.2.2.2.2.2.2.2.2.2.2.2.2.2.2.1,(hs.bel (jB hW hV)).c21,c77,c63,c64,c65,c66,c67⟩) hX.sf hX.fok os (hL.bel hW) hxn hO t hot (hT.bel hW) r hr
 clear hX hot
 clear hs hT hF hL hO hr hxn hB0
 obtain ⟨c0,c12,c13,c14,c15,c63,c64,c65,c66,c67,c68,c69,c70,c71,c72,c73,c74,c75,c76,c77⟩:=HC.out _ bR
 go_enter Tryz.func178,Tryz.ntmps178
 go_upto_region 1 with fail
 go_cut [3,4] (fun v u V=>∃ b3 b4,v=.pointer (some ⟨b3,0,none⟩)∧u=.pointer (some ⟨b4,0,none⟩)∧At V b3 (tyO k m q s ya yn yc)∧At V b4 (tyO k2 m2 q2 s2 ya2 yn2 yc2)∧Below w.heap.size w V)
 case first =>
  go_big_region
  all_goals (go_wp2_with fail)
  all_goals (go_meet)
  all_goals first|exact ⟨_,_,rfl,rfl,((At.new _ _).alloc _).drew,(at_snd _ _ _).drew,(belA (belA bR)).drew⟩|exact ⟨_,_,rfl,rfl,(at_snd _ _ _).drew,((At.new _ _).alloc _).drew,(belA (belA bR)).drew⟩
 case rest =>
  obtain ⟨b3,b4,rfl,rfl,hA3,hA4,hB⟩:=hcut
  have HA3:=jH hA3
  have HA4:=jH hA4
  have HB:=jH hB
  clear hA3 hA4 hB
  clear c0 c12 c13 c14 c15 c63 c64 c65 c66 c67 c68 c69 c70 c71 c72 c73 c74 c75 c76 c77
  obtain ⟨c0,c12,c13,c14,c15,c63,c64,c65,c66,c67,c68,c69,c70,c71,c72,c73,c74,c75,c76,c77⟩:=HC.out _ HB.out
  go_wp2_with (go_at_call 198;refine (CB.out _ HB.out).mono ?_;rintro e w1 ⟨rfl,hb1⟩;have HF1:=jH (jB HB.out hb1);clear hb1)
  go_ret
  exact ⟨rfl,HF1.out⟩
theorem op_call {w0 w:World} (hB0:Below w0.heap.size w0 w) (b:Nat) (s:Scv) (hs:ScS w b s) (t f:Ch) (os:List Ch) (hT:TyAt w s.tw.f t.ty) (hF:TyAt w s.fw.f f.ty) (hL:LcAt w s.ta s.tn s.tc (os.map Ch.ty)) (hxn:s.tn≤2000000) (hO:∀ c∈os,Ok c) (hop:s.pv.op=7) {hs9:List (Nat × List Ch)} (hU:UF w0 s.ua s.un hs9) (hok:Ok t) (r:Bool) (hr:r=cmB hs9 s.pv.fn t os) :
  Calls Tryz.prog 178 #[.pointer (some ⟨b,0,none⟩)] w fun e w'=>e=.returned (.bool r)∧Below w.heap.size w w':=by
 obtain ⟨⟨op,⟨tl,ta,tn,tc⟩,⟨ak,an,al,aa,am,ac⟩,⟨bk,bn,bl,ba,bm,bc⟩,ra,rn,rc,sg,⟨fl,fa,fm,fc⟩,mu,fn,st,nx,el,ps⟩,sa,sn,sc,ua,un,ucap,mn,nm,lv,oa,on,oc,pa,la,ln,lc,na,nn,nc,qa,qn,qc,dr,⟨⟨k,m,q,s,ya,yn,yc⟩,tbr,tbs⟩,⟨⟨k2,m2,q2,s2,ya2,yn2,yc2⟩,fbr,fbs⟩,xa,xn,xc⟩:=s
 have hlt:b<w.heap.size:=hs.lt
 have hop2:op=7:=hop
 subst hop2
 have HC:Hid (∀ W,Below w.heap.size w W→W.cell? ⟨b,0,none⟩=some (.int .u8 7)∧W.cell? ⟨b,12,none⟩=some (.string sg)∧W.cell? ⟨b,13,none⟩=some (.int .i64 fl)∧W.cell? ⟨b,14,none⟩=some (.slice fa fm fc)∧W.cell? ⟨b,15,none⟩=some (.bool mu)∧W.cell? ⟨b,63,none⟩=some (.int .u8 (k:Int))∧W.cell? ⟨b,64,none⟩=some (.bool m)∧W.cell? ⟨b,65,none⟩=some (.int .i64 q)∧W.cell? ⟨b,66,none⟩=some (.int .i64 s)∧W.cell? ⟨b,67,none⟩=some (.slice ya yn yc)∧W.cell? ⟨b,68,none⟩=some (.bool tbr)∧W.cell? ⟨b,69,none⟩=some (.bool tbs)∧W.cell? ⟨b,70,none⟩=some (.int .u8 (k2:Int))∧W.cell? ⟨b,71,none⟩=some (.bool m2)∧W.cell? ⟨b,72,none⟩=some (.int .i64 q2)∧W.cell? ⟨b,73,none⟩=some (.int .i64 s2)∧W.cell? ⟨b,74,none⟩=some (.slice ya2 yn2 yc2)∧W.cell? ⟨b,75,none⟩=some (.bool fbr)∧W.cell? ⟨b,76,none⟩=some (.bool fbs)∧W.cell? ⟨b,77,none⟩=some (.slice xa xn xc)):=fun W hW=>⟨(hs.bel hW).pt.2.1,(hs.bel hW).pt.2.2.2.2.2.2.2.2.2.2.2.2.2.1,(hs.bel hW).pt.2.2.2.2.2.2.2.2.2.2.2.2.2.2.1,(hs.bel hW).pt.2.2.2.2.2.2.2.2.2.2.2.2.2.2.2.1,(hs.bel hW).pt.2.2.2.2.2.2.2.2.2.2.2.2.2.2.2.2.1,(hs.bel hW).tw.2.1,(hs.bel hW).tw.2.2.1,(hs.bel hW).tw.2.2.2.1,(hs.bel hW).tw.2.2.2.2.1,(hs.bel hW).tw.2.2.2.2.2,(hs.bel hW).t68,(hs.bel hW).t69,(hs.bel hW).fw.2.1,(hs.bel hW).fw.2.2.1,(hs.bel hW).fw.2.2.2.1,(hs.bel hW).fw.2.2.2.2.1,(hs.bel hW).fw.2.2.2.2.2,(hs.bel hW).f75,(hs.bel hW).f76,(hs.bel hW).c77⟩
 have CB:Hid (∀ W,Below w.heap.size w W→Calls Tryz.prog 199 #[.pointer (some ⟨b,0,none⟩)] W fun e w'=>e=.returned (.bool r)∧Below W.heap.size W w'):=fun W hW=>call_any (jB hB0 hW) b fn ua xa un ucap xn xc k m q s ya yn yc (fun V hV=>by obtain ⟨c0,c12,c13,c14,c15,c63,c64,c65,c66,c67,c68,c69,c70,c71,c72,c73,c74,c75,c76,c77⟩:=HC.out V (jB hW hV);exact ⟨(hs.bel (jB hW hV)).pt.2.2.2.2.2.2.2.2.2.2.2.2.2.2.2.2.2.1,(hs.bel (jB hW hV)).c22,c77,c63,c64,c65,c66,c67⟩) hU os (hL.bel hW) hxn hO t hok (hT.bel hW) r hr
 clear hU hok
 clear hs hT hF hL hO hr hxn hB0
 obtain ⟨c0,c12,c13,c14,c15,c63,c64,c65,c66,c67,c68,c69,c70,c71,c72,c73,c74,c75,c76,c77⟩:=HC.out _ bR
 go_enter Tryz.func178,Tryz.ntmps178
 go_upto_region 1 with fail
 go_cut [3,4] (fun v u V=>∃ b3 b4,v=.pointer (some ⟨b3,0,none⟩)∧u=.pointer (some ⟨b4,0,none⟩)∧At V b3 (tyO k m q s ya yn yc)∧At V b4 (tyO k2 m2 q2 s2 ya2 yn2 yc2)∧Below w.heap.size w V)
 case first =>
  go_big_region
  all_goals (go_wp2_with fail)
  all_goals (go_meet)
  all_goals first|exact ⟨_,_,rfl,rfl,((At.new _ _).alloc _).drew,(at_snd _ _ _).drew,(belA (belA bR)).drew⟩|exact ⟨_,_,rfl,rfl,(at_snd _ _ _).drew,((At.new _ _).alloc _).drew,(belA (belA bR)).drew⟩
 case rest =>
  obtain ⟨b3,b4,rfl,rfl,hA3,hA4,hB⟩:=hcut
  have HA3:=jH hA3
  have HA4:=jH hA4
  have HB:=jH hB
  clear hA3 hA4 hB
  clear c0 c12 c13 c14 c15 c63 c64 c65 c66 c67 c68 c69 c70 c71 c72 c73 c74 c75 c76 c77
  obtain ⟨c0,c12,c13,c14,c15,c63,c64,c65,c66,c67,c68,c69,c70,c71,c72,c73,c74,c75,c76,c77⟩:=HC.out _ HB.out
  go_wp2_with (go_at_call 199;refine (CB.out _ HB.out).mono ?_;rintro e w1 ⟨rfl,hb1⟩;have HF1:=jH (jB HB.out hb1);clear hb1)
  go_ret
  exact ⟨rfl,HF1.out⟩
theorem op_read {w0 w:World} (hB0:Below w0.heap.size w0 w) (b:Nat) (s:Scv) (hs:ScS w b s) (t f:Ch) (os:List Ch) (hT:TyAt w s.tw.f t.ty) (hF:TyAt w s.fw.f f.ty) (hL:LcAt w s.ta s.tn s.tc (os.map Ch.ty)) (hxn:s.tn≤2000000) (hO:∀ c∈os,Ok c) (hop:s.pv.op=8) (r:Bool) (hr:r=allK 1 [t]) :
  Calls Tryz.prog 178 #[.pointer (some ⟨b,0,none⟩)] w fun e w'=>e=.returned (.bool r)∧Below w.heap.size w w':=by
 obtain ⟨⟨op,⟨tl,ta,tn,tc⟩,⟨ak,an,al,aa,am,ac⟩,⟨bk,bn,bl,ba,bm,bc⟩,ra,rn,rc,sg,⟨fl,fa,fm,fc⟩,mu,fn,st,nx,el,ps⟩,sa,sn,sc,ua,un,ucap,mn,nm,lv,oa,on,oc,pa,la,ln,lc,na,nn,nc,qa,qn,qc,dr,⟨⟨k,m,q,s,ya,yn,yc⟩,tbr,tbs⟩,⟨⟨k2,m2,q2,s2,ya2,yn2,yc2⟩,fbr,fbs⟩,xa,xn,xc⟩:=s
 have hlt:b<w.heap.size:=hs.lt
 have hop2:op=8:=hop
 subst hop2
 have HC:Hid (∀ W,Below w.heap.size w W→W.cell? ⟨b,0,none⟩=some (.int .u8 8)∧W.cell? ⟨b,12,none⟩=some (.string sg)∧W.cell? ⟨b,13,none⟩=some (.int .i64 fl)∧W.cell? ⟨b,14,none⟩=some (.slice fa fm fc)∧W.cell? ⟨b,15,none⟩=some (.bool mu)∧W.cell? ⟨b,63,none⟩=some (.int .u8 (k:Int))∧W.cell? ⟨b,64,none⟩=some (.bool m)∧W.cell? ⟨b,65,none⟩=some (.int .i64 q)∧W.cell? ⟨b,66,none⟩=some (.int .i64 s)∧W.cell? ⟨b,67,none⟩=some (.slice ya yn yc)∧W.cell? ⟨b,68,none⟩=some (.bool tbr)∧W.cell? ⟨b,69,none⟩=some (.bool tbs)∧W.cell? ⟨b,70,none⟩=some (.int .u8 (k2:Int))∧W.cell? ⟨b,71,none⟩=some (.bool m2)∧W.cell? ⟨b,72,none⟩=some (.int .i64 q2)∧W.cell? ⟨b,73,none⟩=some (.int .i64 s2)∧W.cell? ⟨b,74,none⟩=some (.slice ya2 yn2 yc2)∧W.cell? ⟨b,75,none⟩=some (.bool fbr)∧W.cell? ⟨b,76,none⟩=some (.bool fbs)∧W.cell? ⟨b,77,none⟩=some (.slice xa xn xc)):=fun W hW=>⟨(hs.bel hW).pt.2.1,(hs.bel hW).pt.2.2.2.2.2.2.2.2.2.2.2.2.2.1,(hs.bel hW).pt.2.2.2.2.2.2.2.2.2.2.2.2.2.2.1,(hs.bel hW).pt.2.2.2.2.2.2.2.2.2.2.2.2.2.2.2.1,(hs.bel hW).pt.2.2.2.2.2.2.2.2.2.2.2.2.2.2.2.2.1,(hs.bel hW).tw.2.1,(hs.bel hW).tw.2.2.1,(hs.bel hW).tw.2.2.2.1,(hs.bel hW).tw.2.2.2.2.1,(hs.bel hW).tw.2.2.2.2.2,(hs.bel hW).t68,(hs.bel hW).t69,(hs.bel hW).fw.2.1,(hs.bel hW).fw.2.2.1,(hs.bel hW).fw.2.2.2.1,(hs.bel hW).fw.2.2.2.2.1,(hs.bel hW).fw.2.2.2.2.2,(hs.bel hW).f75,(hs.bel hW).f76,(hs.bel hW).c77⟩
 have CB:Hid (∀ W,Below w.heap.size w W→Calls Tryz.prog 197 #[.int .u8 1,.slice (some ⟨W.heap.size,0,none⟩) 1 1] (W.alloc (.cells #[.int .u8 (k:Int),.bool m,.int .i64 q,.int .i64 s,.slice ya yn yc] 43 (0,0))) fun e w'=>e=.returned (.bool r)∧Below W.heap.size W w'):=fun W hW=>(areAll_any _ 1 _ 1 1 [t] (lc_one W ⟨k,m,q,s,ya,yn,yc⟩ t (hT.bel hW)) (by decide) r hr).mono fun e w' x=>⟨x.1,below1 x.2⟩
 clear hs hT hF hL hO hr hxn hB0
 obtain ⟨c0,c12,c13,c14,c15,c63,c64,c65,c66,c67,c68,c69,c70,c71,c72,c73,c74,c75,c76,c77⟩:=HC.out _ bR
 go_enter Tryz.func178,Tryz.ntmps178
 go_upto_region 1 with fail
 go_cut [3,4] (fun v u V=>∃ b3 b4,v=.pointer (some ⟨b3,0,none⟩)∧u=.pointer (some ⟨b4,0,none⟩)∧At V b3 (tyO k m q s ya yn yc)∧At V b4 (tyO k2 m2 q2 s2 ya2 yn2 yc2)∧Below w.heap.size w V)
 case first =>
  go_big_region
  all_goals (go_wp2_with fail)
  all_goals (go_meet)
  all_goals first|exact ⟨_,_,rfl,rfl,((At.new _ _).alloc _).drew,(at_snd _ _ _).drew,(belA (belA bR)).drew⟩|exact ⟨_,_,rfl,rfl,(at_snd _ _ _).drew,((At.new _ _).alloc _).drew,(belA (belA bR)).drew⟩
 case rest =>
  obtain ⟨b3,b4,rfl,rfl,hA3,hA4,hB⟩:=hcut
  have HA3:=jH hA3
  have HA4:=jH hA4
  have HB:=jH hB
  clear hA3 hA4 hB
  clear c0 c12 c13 c14 c15 c63 c64 c65 c66 c67 c68 c69 c70 c71 c72 c73 c74 c75 c76 c77
  obtain ⟨c0,c12,c13,c14,c15,c63,c64,c65,c66,c67,c68,c69,c70,c71,c72,c73,c74,c75,c76,c77⟩:=HC.out _ HB.out
  obtain ⟨hl3,y0,y1,y2,y3,y4⟩:=At.ty (f:=⟨k,m,q,s,ya,yn,yc⟩) HA3.out
  simp only [Nat.zero_add] at y0 y1 y2 y3 y4
  go_wp2_with (go_at_call 197;refine (CB.out _ HB.out).mono ?_;rintro e w1 ⟨rfl,hb1⟩;have HF1:=jH (jB HB.out hb1);clear hb1)
  go_ret
  exact ⟨rfl,HF1.out⟩
theorem op_print {w0 w:World} (hB0:Below w0.heap.size w0 w) (b:Nat) (s:Scv) (hs:ScS w b s) (t f:Ch) (os:List Ch) (hT:TyAt w s.tw.f t.ty) (hF:TyAt w s.fw.f f.ty) (hL:LcAt w s.ta s.tn s.tc (os.map Ch.ty)) (hxn:s.tn≤2000000) (hO:∀ c∈os,Ok c) (hop:s.pv.op=9) (r:Bool) (hr:r=allK 1 os) :
  Calls Tryz.prog 178 #[.pointer (some ⟨b,0,none⟩)] w fun e w'=>e=.returned (.bool r)∧Below w.heap.size w w':=by
 obtain ⟨⟨op,⟨tl,ta,tn,tc⟩,⟨ak,an,al,aa,am,ac⟩,⟨bk,bn,bl,ba,bm,bc⟩,ra,rn,rc,sg,⟨fl,fa,fm,fc⟩,mu,fn,st,nx,el,ps⟩,sa,sn,sc,ua,un,ucap,mn,nm,lv,oa,on,oc,pa,la,ln,lc,na,nn,nc,qa,qn,qc,dr,⟨⟨k,m,q,s,ya,yn,yc⟩,tbr,tbs⟩,⟨⟨k2,m2,q2,s2,ya2,yn2,yc2⟩,fbr,fbs⟩,xa,xn,xc⟩:=s
 have hlt:b<w.heap.size:=hs.lt
 have hop2:op=9:=hop
 subst hop2
 have HC:Hid (∀ W,Below w.heap.size w W→W.cell? ⟨b,0,none⟩=some (.int .u8 9)∧W.cell? ⟨b,12,none⟩=some (.string sg)∧W.cell? ⟨b,13,none⟩=some (.int .i64 fl)∧W.cell? ⟨b,14,none⟩=some (.slice fa fm fc)∧W.cell? ⟨b,15,none⟩=some (.bool mu)∧W.cell? ⟨b,63,none⟩=some (.int .u8 (k:Int))∧W.cell? ⟨b,64,none⟩=some (.bool m)∧W.cell? ⟨b,65,none⟩=some (.int .i64 q)∧W.cell? ⟨b,66,none⟩=some (.int .i64 s)∧W.cell? ⟨b,67,none⟩=some (.slice ya yn yc)∧W.cell? ⟨b,68,none⟩=some (.bool tbr)∧W.cell? ⟨b,69,none⟩=some (.bool tbs)∧W.cell? ⟨b,70,none⟩=some (.int .u8 (k2:Int))∧W.cell? ⟨b,71,none⟩=some (.bool m2)∧W.cell? ⟨b,72,none⟩=some (.int .i64 q2)∧W.cell? ⟨b,73,none⟩=some (.int .i64 s2)∧W.cell? ⟨b,74,none⟩=some (.slice ya2 yn2 yc2)∧W.cell? ⟨b,75,none⟩=some (.bool fbr)∧W.cell? ⟨b,76,none⟩=some (.bool fbs)∧W.cell? ⟨b,77,none⟩=some (.slice xa xn xc)):=fun W hW=>⟨(hs.bel hW).pt.2.1,(hs.bel hW).pt.2.2.2.2.2.2.2.2.2.2.2.2.2.1,(hs.bel hW).pt.2.2.2.2.2.2.2.2.2.2.2.2.2.2.1,(hs.bel hW).pt.2.2.2.2.2.2.2.2.2.2.2.2.2.2.2.1,(hs.bel hW).pt.2.2.2.2.2.2.2.2.2.2.2.2.2.2.2.2.1,(hs.bel hW).tw.2.1,(hs.bel hW).tw.2.2.1,(hs.bel hW).tw.2.2.2.1,(hs.bel hW).tw.2.2.2.2.1,(hs.bel hW).tw.2.2.2.2.2,(hs.bel hW).t68,(hs.bel hW).t69,(hs.bel hW).fw.2.1,(hs.bel hW).fw.2.2.1,(hs.bel hW).fw.2.2.2.1,(hs.bel hW).fw.2.2.2.2.1,(hs.bel hW).fw.2.2.2.2.2,(hs.bel hW).f75,(hs.bel hW).f76,(hs.bel hW).c77⟩
 have CB:Hid (∀ W,Below w.heap.size w W→Calls Tryz.prog 197 #[.int .u8 1,.slice xa xn xc] W fun e w'=>e=.returned (.bool r)∧Below W.heap.size W w'):=fun W hW=>areAll_any W 1 xa xn xc os (hL.bel hW) hxn r hr
 clear hs hT hF hL hO hr hxn hB0
 obtain ⟨c0,c12,c13,c14,c15,c63,c64,c65,c66,c67,c68,c69,c70,c71,c72,c73,c74,c75,c76,c77⟩:=HC.out _ bR
 go_enter Tryz.func178,Tryz.ntmps178
 go_upto_region 1 with fail
 go_cut [3,4] (fun v u V=>∃ b3 b4,v=.pointer (some ⟨b3,0,none⟩)∧u=.pointer (some ⟨b4,0,none⟩)∧At V b3 (tyO k m q s ya yn yc)∧At V b4 (tyO k2 m2 q2 s2 ya2 yn2 yc2)∧Below w.heap.size w V)
 case first =>
  go_big_region
  all_goals (go_wp2_with fail)
  all_goals (go_meet)
  all_goals first|exact ⟨_,_,rfl,rfl,((At.new _ _).alloc _).drew,(at_snd _ _ _).drew,(belA (belA bR)).drew⟩|exact ⟨_,_,rfl,rfl,(at_snd _ _ _).drew,((At.new _ _).alloc _).drew,(belA (belA bR)).drew⟩
 case rest =>
  obtain ⟨b3,b4,rfl,rfl,hA3,hA4,hB⟩:=hcut
  have HA3:=jH hA3
  have HA4:=jH hA4
  have HB:=jH hB
  clear hA3 hA4 hB
  clear c0 c12 c13 c14 c15 c63 c64 c65 c66 c67 c68 c69 c70 c71 c72 c73 c74 c75 c76 c77
  obtain ⟨c0,c12,c13,c14,c15,c63,c64,c65,c66,c67,c68,c69,c70,c71,c72,c73,c74,c75,c76,c77⟩:=HC.out _ HB.out
  go_wp2_with (go_at_call 197;refine (CB.out _ HB.out).mono ?_;rintro e w1 ⟨rfl,hb1⟩;have HF1:=jH (jB HB.out hb1);clear hb1)
  go_ret
  exact ⟨rfl,HF1.out⟩
theorem op_branch {w0 w:World} (hB0:Below w0.heap.size w0 w) (b:Nat) (s:Scv) (hs:ScS w b s) (t f:Ch) (os:List Ch) (hT:TyAt w s.tw.f t.ty) (hF:TyAt w s.fw.f f.ty) (hL:LcAt w s.ta s.tn s.tc (os.map Ch.ty)) (hxn:s.tn≤2000000) (hO:∀ c∈os,Ok c) (hop:s.pv.op=12) (r:Bool) (hr:r=allK 2 os) :
  Calls Tryz.prog 178 #[.pointer (some ⟨b,0,none⟩)] w fun e w'=>e=.returned (.bool r)∧Below w.heap.size w w':=by
 obtain ⟨⟨op,⟨tl,ta,tn,tc⟩,⟨ak,an,al,aa,am,ac⟩,⟨bk,bn,bl,ba,bm,bc⟩,ra,rn,rc,sg,⟨fl,fa,fm,fc⟩,mu,fn,st,nx,el,ps⟩,sa,sn,sc,ua,un,ucap,mn,nm,lv,oa,on,oc,pa,la,ln,lc,na,nn,nc,qa,qn,qc,dr,⟨⟨k,m,q,s,ya,yn,yc⟩,tbr,tbs⟩,⟨⟨k2,m2,q2,s2,ya2,yn2,yc2⟩,fbr,fbs⟩,xa,xn,xc⟩:=s
 have hlt:b<w.heap.size:=hs.lt
 have hop2:op=12:=hop
 subst hop2
 have HC:Hid (∀ W,Below w.heap.size w W→W.cell? ⟨b,0,none⟩=some (.int .u8 12)∧W.cell? ⟨b,12,none⟩=some (.string sg)∧W.cell? ⟨b,13,none⟩=some (.int .i64 fl)∧W.cell? ⟨b,14,none⟩=some (.slice fa fm fc)∧W.cell? ⟨b,15,none⟩=some (.bool mu)∧W.cell? ⟨b,63,none⟩=some (.int .u8 (k:Int))∧W.cell? ⟨b,64,none⟩=some (.bool m)∧W.cell? ⟨b,65,none⟩=some (.int .i64 q)∧W.cell? ⟨b,66,none⟩=some (.int .i64 s)∧W.cell? ⟨b,67,none⟩=some (.slice ya yn yc)∧W.cell? ⟨b,68,none⟩=some (.bool tbr)∧W.cell? ⟨b,69,none⟩=some (.bool tbs)∧W.cell? ⟨b,70,none⟩=some (.int .u8 (k2:Int))∧W.cell? ⟨b,71,none⟩=some (.bool m2)∧W.cell? ⟨b,72,none⟩=some (.int .i64 q2)∧W.cell? ⟨b,73,none⟩=some (.int .i64 s2)∧W.cell? ⟨b,74,none⟩=some (.slice ya2 yn2 yc2)∧W.cell? ⟨b,75,none⟩=some (.bool fbr)∧W.cell? ⟨b,76,none⟩=some (.bool fbs)∧W.cell? ⟨b,77,none⟩=some (.slice xa xn xc)):=fun W hW=>⟨(hs.bel hW).pt.2.1,(hs.bel hW).pt.2.2.2.2.2.2.2.2.2.2.2.2.2.1,(hs.bel hW).pt.2.2.2.2.2.2.2.2.2.2.2.2.2.2.1,(hs.bel hW).pt.2.2.2.2.2.2.2.2.2.2.2.2.2.2.2.1,(hs.bel hW).pt.2.2.2.2.2.2.2.2.2.2.2.2.2.2.2.2.1,(hs.bel hW).tw.2.1,(hs.bel hW).tw.2.2.1,(hs.bel hW).tw.2.2.2.1,(hs.bel hW).tw.2.2.2.2.1,(hs.bel hW).tw.2.2.2.2.2,(hs.bel hW).t68,(hs.bel hW).t69,(hs.bel hW).fw.2.1,(hs.bel hW).fw.2.2.1,(hs.bel hW).fw.2.2.2.1,(hs.bel hW).fw.2.2.2.2.1,(hs.bel hW).fw.2.2.2.2.2,(hs.bel hW).f75,(hs.bel hW).f76,(hs.bel hW).c77⟩
 have CB:Hid (∀ W,Below w.heap.size w W→Calls Tryz.prog 197 #[.int .u8 2,.slice xa xn xc] W fun e w'=>e=.returned (.bool r)∧Below W.heap.size W w'):=fun W hW=>areAll_any W 2 xa xn xc os (hL.bel hW) hxn r hr
 clear hs hT hF hL hO hr hxn hB0
 obtain ⟨c0,c12,c13,c14,c15,c63,c64,c65,c66,c67,c68,c69,c70,c71,c72,c73,c74,c75,c76,c77⟩:=HC.out _ bR
 go_enter Tryz.func178,Tryz.ntmps178
 go_upto_region 1 with fail
 go_cut [3,4] (fun v u V=>∃ b3 b4,v=.pointer (some ⟨b3,0,none⟩)∧u=.pointer (some ⟨b4,0,none⟩)∧At V b3 (tyO k m q s ya yn yc)∧At V b4 (tyO k2 m2 q2 s2 ya2 yn2 yc2)∧Below w.heap.size w V)
 case first =>
  go_big_region
  all_goals (go_wp2_with fail)
  all_goals (go_meet)
  all_goals first|exact ⟨_,_,rfl,rfl,((At.new _ _).alloc _).drew,(at_snd _ _ _).drew,(belA (belA bR)).drew⟩|exact ⟨_,_,rfl,rfl,(at_snd _ _ _).drew,((At.new _ _).alloc _).drew,(belA (belA bR)).drew⟩
 case rest =>
  obtain ⟨b3,b4,rfl,rfl,hA3,hA4,hB⟩:=hcut
  have HA3:=jH hA3
  have HA4:=jH hA4
  have HB:=jH hB
  clear hA3 hA4 hB
  clear c0 c12 c13 c14 c15 c63 c64 c65 c66 c67 c68 c69 c70 c71 c72 c73 c74 c75 c76 c77
  obtain ⟨c0,c12,c13,c14,c15,c63,c64,c65,c66,c67,c68,c69,c70,c71,c72,c73,c74,c75,c76,c77⟩:=HC.out _ HB.out
  go_wp2_with (go_at_call 197;refine (CB.out _ HB.out).mono ?_;rintro e w1 ⟨rfl,hb1⟩;have HF1:=jH (jB HB.out hb1);clear hb1)
  go_ret
  exact ⟨rfl,HF1.out⟩
theorem op_drop {w0 w:World} (hB0:Below w0.heap.size w0 w) (b:Nat) (s:Scv) (hs:ScS w b s) (t f:Ch) (os:List Ch) (hT:TyAt w s.tw.f t.ty) (hF:TyAt w s.fw.f f.ty) (hL:LcAt w s.ta s.tn s.tc (os.map Ch.ty)) (hxn:s.tn≤2000000) (hO:∀ c∈os,Ok c) (hop:s.pv.op=10) {x:Sc} (hx:x.dr=s.dr) (n:Int) (hn:n≤32) (hcf:f.ok n) (r:Bool) (hr:r=(x.drp f && !s.fw.br)) :
  Calls Tryz.prog 178 #[.pointer (some ⟨b,0,none⟩)] w fun e w'=>e=.returned (.bool r)∧Below w.heap.size w w':=by
 obtain ⟨⟨op,⟨tl,ta,tn,tc⟩,⟨ak,an,al,aa,am,ac⟩,⟨bk,bn,bl,ba,bm,bc⟩,ra,rn,rc,sg,⟨fl,fa,fm,fc⟩,mu,fn,st,nx,el,ps⟩,sa,sn,sc,ua,un,ucap,mn,nm,lv,oa,on,oc,pa,la,ln,lc,na,nn,nc,qa,qn,qc,dr,⟨⟨k,m,q,s,ya,yn,yc⟩,tbr,tbs⟩,⟨⟨k2,m2,q2,s2,ya2,yn2,yc2⟩,fbr,fbs⟩,xa,xn,xc⟩:=s
 have hlt:b<w.heap.size:=hs.lt
 have hop2:op=10:=hop
 subst hop2
 have HC:Hid (∀ W,Below w.heap.size w W→W.cell? ⟨b,0,none⟩=some (.int .u8 10)∧W.cell? ⟨b,12,none⟩=some (.string sg)∧W.cell? ⟨b,13,none⟩=some (.int .i64 fl)∧W.cell? ⟨b,14,none⟩=some (.slice fa fm fc)∧W.cell? ⟨b,15,none⟩=some (.bool mu)∧W.cell? ⟨b,63,none⟩=some (.int .u8 (k:Int))∧W.cell? ⟨b,64,none⟩=some (.bool m)∧W.cell? ⟨b,65,none⟩=some (.int .i64 q)∧W.cell? ⟨b,66,none⟩=some (.int .i64 s)∧W.cell? ⟨b,67,none⟩=some (.slice ya yn yc)∧W.cell? ⟨b,68,none⟩=some (.bool tbr)∧W.cell? ⟨b,69,none⟩=some (.bool tbs)∧W.cell? ⟨b,70,none⟩=some (.int .u8 (k2:Int))∧W.cell? ⟨b,71,none⟩=some (.bool m2)∧W.cell? ⟨b,72,none⟩=some (.int .i64 q2)∧W.cell? ⟨b,73,none⟩=some (.int .i64 s2)∧W.cell? ⟨b,74,none⟩=some (.slice ya2 yn2 yc2)∧W.cell? ⟨b,75,none⟩=some (.bool fbr)∧W.cell? ⟨b,76,none⟩=some (.bool fbs)∧W.cell? ⟨b,77,none⟩=some (.slice xa xn xc)):=fun W hW=>⟨(hs.bel hW).pt.2.1,(hs.bel hW).pt.2.2.2.2.2.2.2.2.2.2.2.2.2.1,(hs.bel hW).pt.2.2.2.2.2.2.2.2.2.2.2.2.2.2.1,(hs.bel hW).pt.2.2.2.2.2.2.2.2.2.2.2.2.2.2.2.1,(hs.bel hW).pt.2.2.2.2.2.2.2.2.2.2.2.2.2.2.2.2.1,(hs.bel hW).tw.2.1,(hs.bel hW).tw.2.2.1,(hs.bel hW).tw.2.2.2.1,(hs.bel hW).tw.2.2.2.2.1,(hs.bel hW).tw.2.2.2.2.2,(hs.bel hW).t68,(hs.bel hW).t69,(hs.bel hW).fw.2.1,(hs.bel hW).fw.2.2.1,(hs.bel hW).fw.2.2.2.1,(hs.bel hW).fw.2.2.2.2.1,(hs.bel hW).fw.2.2.2.2.2,(hs.bel hW).f75,(hs.bel hW).f76,(hs.bel hW).c77⟩
 obtain ⟨nd,hnd⟩:∃ nd,nd=x.drp f:=⟨_,rfl⟩
 have CB:Hid (∀ W,Below w.heap.size w W→Calls Tryz.prog 200 #[.pointer (some ⟨b,0,none⟩),tyV k2 m2 q2 s2 ya2 yn2 yc2] W fun e w'=>e=.returned (.bool nd)∧Below W.heap.size W w'):=fun W hW=>needs_any W b (hs.bel hW).lt dr (hs.bel hW).dr n hn f ⟨k2,m2,q2,s2,ya2,yn2,yc2⟩ hcf (hF.bel hW) x hx nd hnd
 have hr2:r=(nd && !fbr):=by rw [hr,hnd]
 clear hx hcf hnd
 clear hs hT hF hL hO hr hxn hB0
 cases nd with
 | false =>
  have hr3:r=false:=hr2
  subst hr3
  clear hr2
  obtain ⟨c0,c12,c13,c14,c15,c63,c64,c65,c66,c67,c68,c69,c70,c71,c72,c73,c74,c75,c76,c77⟩:=HC.out _ bR
  go_enter Tryz.func178,Tryz.ntmps178
  go_upto_region 1 with fail
  go_cut [3,4] (fun v u V=>∃ b3 b4,v=.pointer (some ⟨b3,0,none⟩)∧u=.pointer (some ⟨b4,0,none⟩)∧At V b3 (tyO k m q s ya yn yc)∧At V b4 (tyO k2 m2 q2 s2 ya2 yn2 yc2)∧Below w.heap.size w V)
  case first =>
   go_big_region
   all_goals (go_wp2_with fail)
   all_goals (go_meet)
   all_goals first|exact ⟨_,_,rfl,rfl,((At.new _ _).alloc _).drew,(at_snd _ _ _).drew,(belA (belA bR)).drew⟩|exact ⟨_,_,rfl,rfl,(at_snd _ _ _).drew,((At.new _ _).alloc _).drew,(belA (belA bR)).drew⟩
  case rest =>
   obtain ⟨b3,b4,rfl,rfl,hA3,hA4,hB⟩:=hcut
   have HA3:=jH hA3
   have HA4:=jH hA4
   have HB:=jH hB
   clear hA3 hA4 hB
   clear c0 c12 c13 c14 c15 c63 c64 c65 c66 c67 c68 c69 c70 c71 c72 c73 c74 c75 c76 c77
   obtain ⟨c0,c12,c13,c14,c15,c63,c64,c65,c66,c67,c68,c69,c70,c71,c72,c73,c74,c75,c76,c77⟩:=HC.out _ HB.out
   obtain ⟨hl4,z0,z1,z2,z3,z4⟩:=At.ty (f:=⟨k2,m2,q2,s2,ya2,yn2,yc2⟩) HA4.out
   simp only [Nat.zero_add] at z0 z1 z2 z3 z4
   go_wp2_with (go_at_call 200;refine (CB.out _ HB.out).mono ?_;rintro e w1 ⟨rfl,hb1⟩;have HF1:=jH (jB HB.out hb1);clear c0 c12 c13 c14 c15 c63 c64 c65 c66 c67 c68 c69 c70 c71 c72 c73 c74 c75 c76 c77;obtain ⟨c0,c12,c13,c14,c15,c63,c64,c65,c66,c67,c68,c69,c70,c71,c72,c73,c74,c75,c76,c77⟩:=HC.out _ HF1.out;clear hb1)
   go_ret
   exact ⟨rfl,HF1.out⟩
 | true =>
  cases fbr with
  | false =>
   have hr3:r=true:=hr2
   subst hr3
   clear hr2
   obtain ⟨c0,c12,c13,c14,c15,c63,c64,c65,c66,c67,c68,c69,c70,c71,c72,c73,c74,c75,c76,c77⟩:=HC.out _ bR
   go_enter Tryz.func178,Tryz.ntmps178
   go_upto_region 1 with fail
   go_cut [3,4] (fun v u V=>∃ b3 b4,v=.pointer (some ⟨b3,0,none⟩)∧u=.pointer (some ⟨b4,0,none⟩)∧At V b3 (tyO k m q s ya yn yc)∧At V b4 (tyO k2 m2 q2 s2 ya2 yn2 yc2)∧Below w.heap.size w V)
   case first =>
    go_big_region
    all_goals (go_wp2_with fail)
    all_goals (go_meet)
    all_goals first|exact ⟨_,_,rfl,rfl,((At.new _ _).alloc _).drew,(at_snd _ _ _).drew,(belA (belA bR)).drew⟩|exact ⟨_,_,rfl,rfl,(at_snd _ _ _).drew,((At.new _ _).alloc _).drew,(belA (belA bR)).drew⟩
   case rest =>
    obtain ⟨b3,b4,rfl,rfl,hA3,hA4,hB⟩:=hcut
    have HA3:=jH hA3
    have HA4:=jH hA4
    have HB:=jH hB
    clear hA3 hA4 hB
    clear c0 c12 c13 c14 c15 c63 c64 c65 c66 c67 c68 c69 c70 c71 c72 c73 c74 c75 c76 c77
    obtain ⟨c0,c12,c13,c14,c15,c63,c64,c65,c66,c67,c68,c69,c70,c71,c72,c73,c74,c75,c76,c77⟩:=HC.out _ HB.out
    obtain ⟨hl4,z0,z1,z2,z3,z4⟩:=At.ty (f:=⟨k2,m2,q2,s2,ya2,yn2,yc2⟩) HA4.out
    simp only [Nat.zero_add] at z0 z1 z2 z3 z4
    go_wp2_with (go_at_call 200;refine (CB.out _ HB.out).mono ?_;rintro e w1 ⟨rfl,hb1⟩;have HF1:=jH (jB HB.out hb1);clear c0 c12 c13 c14 c15 c63 c64 c65 c66 c67 c68 c69 c70 c71 c72 c73 c74 c75 c76 c77;obtain ⟨c0,c12,c13,c14,c15,c63,c64,c65,c66,c67,c68,c69,c70,c71,c72,c73,c74,c75,c76,c77⟩:=HC.out _ HF1.out;clear hb1)
    go_ret
    exact ⟨rfl,HF1.out⟩
  | true =>
   have hr3:r=false:=hr2
   subst hr3
   clear hr2
   obtain ⟨c0,c12,c13,c14,c15,c63,c64,c65,c66,c67,c68,c69,c70,c71,c72,c73,c74,c75,c76,c77⟩:=HC.out _ bR
   go_enter Tryz.func178,Tryz.ntmps178
   go_upto_region 1 with fail
   go_cut [3,4] (fun v u V=>∃ b3 b4,v=.pointer (some ⟨b3,0,none⟩)∧u=.pointer (some ⟨b4,0,none⟩)∧At V b3 (tyO k m q s ya yn yc)∧At V b4 (tyO k2 m2 q2 s2 ya2 yn2 yc2)∧Below w.heap.size w V)
   case first =>
    go_big_region
    all_goals (go_wp2_with fail)
    all_goals (go_meet)
    all_goals first|exact ⟨_,_,rfl,rfl,((At.new _ _).alloc _).drew,(at_snd _ _ _).drew,(belA (belA bR)).drew⟩|exact ⟨_,_,rfl,rfl,(at_snd _ _ _).drew,((At.new _ _).alloc _).drew,(belA (belA bR)).drew⟩
   case rest =>
    obtain ⟨b3,b4,rfl,rfl,hA3,hA4,hB⟩:=hcut
    have HA3:=jH hA3
    have HA4:=jH hA4
    have HB:=jH hB
    clear hA3 hA4 hB
    clear c0 c12 c13 c14 c15 c63 c64 c65 c66 c67 c68 c69 c70 c71 c72 c73 c74 c75 c76 c77
    obtain ⟨c0,c12,c13,c14,c15,c63,c64,c65,c66,c67,c68,c69,c70,c71,c72,c73,c74,c75,c76,c77⟩:=HC.out _ HB.out
    obtain ⟨hl4,z0,z1,z2,z3,z4⟩:=At.ty (f:=⟨k2,m2,q2,s2,ya2,yn2,yc2⟩) HA4.out
    simp only [Nat.zero_add] at z0 z1 z2 z3 z4
    go_wp2_with (go_at_call 200;refine (CB.out _ HB.out).mono ?_;rintro e w1 ⟨rfl,hb1⟩;have HF1:=jH (jB HB.out hb1);clear c0 c12 c13 c14 c15 c63 c64 c65 c66 c67 c68 c69 c70 c71 c72 c73 c74 c75 c76 c77;obtain ⟨c0,c12,c13,c14,c15,c63,c64,c65,c66,c67,c68,c69,c70,c71,c72,c73,c74,c75,c76,c77⟩:=HC.out _ HF1.out;clear hb1)
    go_ret
    exact ⟨rfl,HF1.out⟩
theorem op_dead {w0 w:World} (hB0:Below w0.heap.size w0 w) (b:Nat) (s:Scv) (hs:ScS w b s) (t f:Ch) (os:List Ch) (hT:TyAt w s.tw.f t.ty) (hF:TyAt w s.fw.f f.ty) (hL:LcAt w s.ta s.tn s.tc (os.map Ch.ty)) (hxn:s.tn≤2000000) (hO:∀ c∈os,Ok c) (hop:s.pv.op=11) (r:Bool) (hr:r=(!decide (s.pv.fp.l=0) && decide (s.pv.fp.n=0))) :
  Calls Tryz.prog 178 #[.pointer (some ⟨b,0,none⟩)] w fun e w'=>e=.returned (.bool r)∧Below w.heap.size w w':=by
 obtain ⟨⟨op,⟨tl,ta,tn,tc⟩,⟨ak,an,al,aa,am,ac⟩,⟨bk,bn,bl,ba,bm,bc⟩,ra,rn,rc,sg,⟨fl,fa,fm,fc⟩,mu,fn,st,nx,el,ps⟩,sa,sn,sc,ua,un,ucap,mn,nm,lv,oa,on,oc,pa,la,ln,lc,na,nn,nc,qa,qn,qc,dr,⟨⟨k,m,q,s,ya,yn,yc⟩,tbr,tbs⟩,⟨⟨k2,m2,q2,s2,ya2,yn2,yc2⟩,fbr,fbs⟩,xa,xn,xc⟩:=s
 have hlt:b<w.heap.size:=hs.lt
 have hop2:op=11:=hop
 subst hop2
 have HC:Hid (∀ W,Below w.heap.size w W→W.cell? ⟨b,0,none⟩=some (.int .u8 11)∧W.cell? ⟨b,12,none⟩=some (.string sg)∧W.cell? ⟨b,13,none⟩=some (.int .i64 fl)∧W.cell? ⟨b,14,none⟩=some (.slice fa fm fc)∧W.cell? ⟨b,15,none⟩=some (.bool mu)∧W.cell? ⟨b,63,none⟩=some (.int .u8 (k:Int))∧W.cell? ⟨b,64,none⟩=some (.bool m)∧W.cell? ⟨b,65,none⟩=some (.int .i64 q)∧W.cell? ⟨b,66,none⟩=some (.int .i64 s)∧W.cell? ⟨b,67,none⟩=some (.slice ya yn yc)∧W.cell? ⟨b,68,none⟩=some (.bool tbr)∧W.cell? ⟨b,69,none⟩=some (.bool tbs)∧W.cell? ⟨b,70,none⟩=some (.int .u8 (k2:Int))∧W.cell? ⟨b,71,none⟩=some (.bool m2)∧W.cell? ⟨b,72,none⟩=some (.int .i64 q2)∧W.cell? ⟨b,73,none⟩=some (.int .i64 s2)∧W.cell? ⟨b,74,none⟩=some (.slice ya2 yn2 yc2)∧W.cell? ⟨b,75,none⟩=some (.bool fbr)∧W.cell? ⟨b,76,none⟩=some (.bool fbs)∧W.cell? ⟨b,77,none⟩=some (.slice xa xn xc)):=fun W hW=>⟨(hs.bel hW).pt.2.1,(hs.bel hW).pt.2.2.2.2.2.2.2.2.2.2.2.2.2.1,(hs.bel hW).pt.2.2.2.2.2.2.2.2.2.2.2.2.2.2.1,(hs.bel hW).pt.2.2.2.2.2.2.2.2.2.2.2.2.2.2.2.1,(hs.bel hW).pt.2.2.2.2.2.2.2.2.2.2.2.2.2.2.2.2.1,(hs.bel hW).tw.2.1,(hs.bel hW).tw.2.2.1,(hs.bel hW).tw.2.2.2.1,(hs.bel hW).tw.2.2.2.2.1,(hs.bel hW).tw.2.2.2.2.2,(hs.bel hW).t68,(hs.bel hW).t69,(hs.bel hW).fw.2.1,(hs.bel hW).fw.2.2.1,(hs.bel hW).fw.2.2.2.1,(hs.bel hW).fw.2.2.2.2.1,(hs.bel hW).fw.2.2.2.2.2,(hs.bel hW).f75,(hs.bel hW).f76,(hs.bel hW).c77⟩
 clear hs hT hF hL hO hxn hB0
 have hr0:r=(!decide (fl=0) && decide (fm=0)):=hr
 clear hr
 have hr:=hr0
 by_cases h1:fl=0
 ·have hr3:r=false:=by rw [hr,decide_eq_true h1];rfl
  have k1:(fl != 0)=false:=by simpa using h1
  have k2b:(fl == 0)=true:=by simpa using h1
  clear hr0
  subst hr3
  clear hr
  obtain ⟨c0,c12,c13,c14,c15,c63,c64,c65,c66,c67,c68,c69,c70,c71,c72,c73,c74,c75,c76,c77⟩:=HC.out _ bR
  go_enter Tryz.func178,Tryz.ntmps178
  go_upto_region 1 with fail
  go_cut [3,4] (fun v u V=>∃ b3 b4,v=.pointer (some ⟨b3,0,none⟩)∧u=.pointer (some ⟨b4,0,none⟩)∧At V b3 (tyO k m q s ya yn yc)∧At V b4 (tyO k2 m2 q2 s2 ya2 yn2 yc2)∧Below w.heap.size w V)
  case first =>
   go_big_region
   all_goals (go_wp2_with fail)
   all_goals (go_meet)
   all_goals first|exact ⟨_,_,rfl,rfl,((At.new _ _).alloc _).drew,(at_snd _ _ _).drew,(belA (belA bR)).drew⟩|exact ⟨_,_,rfl,rfl,(at_snd _ _ _).drew,((At.new _ _).alloc _).drew,(belA (belA bR)).drew⟩
  case rest =>
   obtain ⟨b3,b4,rfl,rfl,hA3,hA4,hB⟩:=hcut
   have HA3:=jH hA3
   have HA4:=jH hA4
   have HB:=jH hB
   clear hA3 hA4 hB
   clear c0 c12 c13 c14 c15 c63 c64 c65 c66 c67 c68 c69 c70 c71 c72 c73 c74 c75 c76 c77
   obtain ⟨c0,c12,c13,c14,c15,c63,c64,c65,c66,c67,c68,c69,c70,c71,c72,c73,c74,c75,c76,c77⟩:=HC.out _ HB.out
   go_wp2_with fail
   go_ret
   exact ⟨rfl,HB.out⟩
 ·have k1:(fl != 0)=true:=by simpa using h1
  have k2b:(fl == 0)=false:=by simpa using h1
  by_cases h2:fm=0
  ·have hr3:r=true:=by rw [hr,decide_eq_false h1,decide_eq_true h2];rfl
   have k3:((fm:Int) == 0)=true:=by rw [h2];rfl
   clear hr0 h2
   subst hr3
   clear hr
   obtain ⟨c0,c12,c13,c14,c15,c63,c64,c65,c66,c67,c68,c69,c70,c71,c72,c73,c74,c75,c76,c77⟩:=HC.out _ bR
   go_enter Tryz.func178,Tryz.ntmps178
   go_upto_region 1 with fail
   go_cut [3,4] (fun v u V=>∃ b3 b4,v=.pointer (some ⟨b3,0,none⟩)∧u=.pointer (some ⟨b4,0,none⟩)∧At V b3 (tyO k m q s ya yn yc)∧At V b4 (tyO k2 m2 q2 s2 ya2 yn2 yc2)∧Below w.heap.size w V)
   case first =>
    go_big_region
    all_goals (go_wp2_with fail)
    all_goals (go_meet)
    all_goals first|exact ⟨_,_,rfl,rfl,((At.new _ _).alloc _).drew,(at_snd _ _ _).drew,(belA (belA bR)).drew⟩|exact ⟨_,_,rfl,rfl,(at_snd _ _ _).drew,((At.new _ _).alloc _).drew,(belA (belA bR)).drew⟩
   case rest =>
    obtain ⟨b3,b4,rfl,rfl,hA3,hA4,hB⟩:=hcut
    have HA3:=jH hA3
    have HA4:=jH hA4
    have HB:=jH hB
    clear hA3 hA4 hB
    clear c0 c12 c13 c14 c15 c63 c64 c65 c66 c67 c68 c69 c70 c71 c72 c73 c74 c75 c76 c77
    obtain ⟨c0,c12,c13,c14,c15,c63,c64,c65,c66,c67,c68,c69,c70,c71,c72,c73,c74,c75,c76,c77⟩:=HC.out _ HB.out
    go_wp2_with fail
    go_ret
    exact ⟨rfl,HB.out⟩
  ·have hr3:r=false:=by rw [hr,decide_eq_false h2,Bool.and_false]
   have k3:((fm:Int) == 0)=false:=by simp;omega
   clear hr0 h2
   subst hr3
   clear hr
   obtain ⟨c0,c12,c13,c14,c15,c63,c64,c65,c66,c67,c68,c69,c70,c71,c72,c73,c74,c75,c76,c77⟩:=HC.out _ bR
   go_enter Tryz.func178,Tryz.ntmps178
   go_upto_region 1 with fail
   go_cut [3,4] (fun v u V=>∃ b3 b4,v=.pointer (some ⟨b3,0,none⟩)∧u=.pointer (some ⟨b4,0,none⟩)∧At V b3 (tyO k m q s ya yn yc)∧At V b4 (tyO k2 m2 q2 s2 ya2 yn2 yc2)∧Below w.heap.size w V)
   case first =>
    go_big_region
    all_goals (go_wp2_with fail)
    all_goals (go_meet)
    all_goals first|exact ⟨_,_,rfl,rfl,((At.new _ _).alloc _).drew,(at_snd _ _ _).drew,(belA (belA bR)).drew⟩|exact ⟨_,_,rfl,rfl,(at_snd _ _ _).drew,((At.new _ _).alloc _).drew,(belA (belA bR)).drew⟩
   case rest =>
    obtain ⟨b3,b4,rfl,rfl,hA3,hA4,hB⟩:=hcut
    have HA3:=jH hA3
    have HA4:=jH hA4
    have HB:=jH hB
    clear hA3 hA4 hB
    clear c0 c12 c13 c14 c15 c63 c64 c65 c66 c67 c68 c69 c70 c71 c72 c73 c74 c75 c76 c77
    obtain ⟨c0,c12,c13,c14,c15,c63,c64,c65,c66,c67,c68,c69,c70,c71,c72,c73,c74,c75,c76,c77⟩:=HC.out _ HB.out
    go_wp2_with fail
    go_ret
    exact ⟨rfl,HB.out⟩
end Go.Proofs.YtmjenlogbkbgnaaGreatDoor
