import Derived.Test.YtmjenlogbkbgnaaGreatDoorC00
import Derived.BigQuiet
import Derived.BigRegion
namespace Go.Proofs.YtmjenlogbkbgnaaGreatDoor
open Go.RowKit Go.Shelf
set_option linter.unusedVariables false
set_option linter.unusedSimpArgs false
set_option maxRecDepth 100000
set_option maxHeartbeats 8000000
theorem op_13 {w0 w:World} (hB0:Below w0.heap.size w0 w) (b:Nat) (s:Scv) (hs:ScS w b s) (t f:Ch) (os:List Ch) (hT:TyAt w s.tw.f t.ty) (hF:TyAt w s.fw.f f.ty) (hL:LcAt w s.ta s.tn s.tc (os.map Ch.ty)) (hxn:s.tn≤2000000) (hO:∀ c∈os,Ok c) (hop:s.pv.op=13) (r:Bool) (hr:r=true) :
  Calls Tryz.prog 178 #[.pointer (some ⟨b,0,none⟩)] w fun e w'=>e=.returned (.bool r)∧Below w.heap.size w w':=by
 obtain ⟨⟨op,⟨tl,ta,tn,tc⟩,⟨ak,an,al,aa,am,ac⟩,⟨bk,bn,bl,ba,bm,bc⟩,ra,rn,rc,sg,⟨fl,fa,fm,fc⟩,mu,fn,st,nx,el,ps⟩,sa,sn,sc,ua,un,ucap,mn,nm,lv,oa,on,oc,pa,la,ln,lc,na,nn,nc,qa,qn,qc,dr,⟨⟨k,m,q,s,ya,yn,yc⟩,tbr,tbs⟩,⟨⟨k2,m2,q2,s2,ya2,yn2,yc2⟩,fbr,fbs⟩,xa,xn,xc⟩:=s
 have hlt:b<w.heap.size:=hs.lt
 have hop2:op=13:=hop
 subst hop2
 have HC:Hid (∀ W,Below w.heap.size w W→W.cell? ⟨b,0,none⟩=some (.int .u8 13)∧W.cell? ⟨b,12,none⟩=some (.string sg)∧W.cell? ⟨b,13,none⟩=some (.int .i64 fl)∧W.cell? ⟨b,14,none⟩=some (.slice fa fm fc)∧W.cell? ⟨b,15,none⟩=some (.bool mu)∧W.cell? ⟨b,63,none⟩=some (.int .u8 (k:Int))∧W.cell? ⟨b,64,none⟩=some (.bool m)∧W.cell? ⟨b,65,none⟩=some (.int .i64 q)∧W.cell? ⟨b,66,none⟩=some (.int .i64 s)∧W.cell? ⟨b,67,none⟩=some (.slice ya yn yc)∧W.cell? ⟨b,68,none⟩=some (.bool tbr)∧W.cell? ⟨b,69,none⟩=some (.bool tbs)∧W.cell? ⟨b,70,none⟩=some (.int .u8 (k2:Int))∧W.cell? ⟨b,71,none⟩=some (.bool m2)∧W.cell? ⟨b,72,none⟩=some (.int .i64 q2)∧W.cell? ⟨b,73,none⟩=some (.int .i64 s2)∧W.cell? ⟨b,74,none⟩=some (.slice ya2 yn2 yc2)∧W.cell? ⟨b,75,none⟩=some (.bool fbr)∧W.cell? ⟨b,76,none⟩=some (.bool fbs)∧W.cell? ⟨b,77,none⟩=some (.slice xa xn xc)):=fun W hW=>⟨(hs.bel hW).pt.2.1,(hs.bel hW).pt.2.2.2.2.2.2.2.2.2.2.2.2.2.1,(hs.bel hW).pt.2.2.2.2.2.2.2.2.2.2.2.2.2.2.1,(hs.bel hW).pt.2.2.2.2.2.2.2.2.2.2.2.2.2.2.2.1,(hs.bel hW).pt.2.2.2.2.2.2.2.2.2.2.2.2.2.2.2.2.1,(hs.bel hW).tw.2.1,(hs.bel hW).tw.2.2.1,(hs.bel hW).tw.2.2.2.1,(hs.bel hW).tw.2.2.2.2.1,(hs.bel hW).tw.2.2.2.2.2,(hs.bel hW).t68,(hs.bel hW).t69,(hs.bel hW).fw.2.1,(hs.bel hW).fw.2.2.1,(hs.bel hW).fw.2.2.2.1,(hs.bel hW).fw.2.2.2.2.1,(hs.bel hW).fw.2.2.2.2.2,(hs.bel hW).f75,(hs.bel hW).f76,(hs.bel hW).c77⟩
 subst hr
 clear hs hT hF hL hO hxn hB0
 obtain ⟨c0,c12,c13,c14,c15,c63,c64,c65,c66,c67,c68,c69,c70,c71,c72,c73,c74,c75,c76,c77⟩:=HC.out _ bR
 go_enter Tryz.func178,Tryz.ntmps178
 go_upto_region 1 with fail
 go_cut [3,4] (fun v u V=>∃ b3 b4,v=.pointer (some ⟨b3,0,none⟩)∧u=.pointer (some ⟨b4,0,none⟩)∧At V b3 (tyO k m q s ya yn yc)∧At V b4 (tyO k2 m2 q2 s2 ya2 yn2 yc2)∧Below w.heap.size w V)
 case first =>
  go_big_region
  all_goals (go_wp2_with fail)
  all_goals (go_meet)
  all_goals first|exact ⟨_,_,rfl,rfl,((At.new _ _).alloc _).drew,(at_snd _ _ _).drew,(belA (belA bR)).drew⟩|exact ⟨_,_,rfl,rfl,(at_snd _ _ _).drew,((At.new _ _).alloc _).drew,(belA (belA bR)).drew⟩
 case rest =>
  obtain ⟨b3,b4,rfl,rfl,hA3,hA4,hB⟩:=hcut
  have HA3:=jH hA3
  have HA4:=jH hA4
  have HB:=jH hB
  clear hA3 hA4 hB
  clear c0 c12 c13 c14 c15 c63 c64 c65 c66 c67 c68 c69 c70 c71 c72 c73 c74 c75 c76 c77
  obtain ⟨c0,c12,c13,c14,c15,c63,c64,c65,c66,c67,c68,c69,c70,c71,c72,c73,c74,c75,c76,c77⟩:=HC.out _ HB.out
  go_wp2_with fail
  go_ret
  exact ⟨rfl,HB.out⟩
theorem op_14 {w0 w:World} (hB0:Below w0.heap.size w0 w) (b:Nat) (s:Scv) (hs:ScS w b s) (t f:Ch) (os:List Ch) (hT:TyAt w s.tw.f t.ty) (hF:TyAt w s.fw.f f.ty) (hL:LcAt w s.ta s.tn s.tc (os.map Ch.ty)) (hxn:s.tn≤2000000) (hO:∀ c∈os,Ok c) (hop:s.pv.op=14) (r:Bool) (hr:r=true) :
  Calls Tryz.prog 178 #[.pointer (some ⟨b,0,none⟩)] w fun e w'=>e=.returned (.bool r)∧Below w.heap.size w w':=by
 obtain ⟨⟨op,⟨tl,ta,tn,tc⟩,⟨ak,an,al,aa,am,ac⟩,⟨bk,bn,bl,ba,bm,bc⟩,ra,rn,rc,sg,⟨fl,fa,fm,fc⟩,mu,fn,st,nx,el,ps⟩,sa,sn,sc,ua,un,ucap,mn,nm,lv,oa,on,oc,pa,la,ln,lc,na,nn,nc,qa,qn,qc,dr,⟨⟨k,m,q,s,ya,yn,yc⟩,tbr,tbs⟩,⟨⟨k2,m2,q2,s2,ya2,yn2,yc2⟩,fbr,fbs⟩,xa,xn,xc⟩:=s
 have hlt:b<w.heap.size:=hs.lt
 have hop2:op=14:=hop
 subst hop2
 have HC:Hid (∀ W,Below w.heap.size w W→W.cell? ⟨b,0,none⟩=some (.int .u8 14)∧W.cell? ⟨b,12,none⟩=some (.string sg)∧W.cell? ⟨b,13,none⟩=some (.int .i64 fl)∧W.cell? ⟨b,14,none⟩=some (.slice fa fm fc)∧W.cell? ⟨b,15,none⟩=some (.bool mu)∧W.cell? ⟨b,63,none⟩=some (.int .u8 (k:Int))∧W.cell? ⟨b,64,none⟩=some (.bool m)∧W.cell? ⟨b,65,none⟩=some (.int .i64 q)∧W.cell? ⟨b,66,none⟩=some (.int .i64 s)∧W.cell? ⟨b,67,none⟩=some (.slice ya yn yc)∧W.cell? ⟨b,68,none⟩=some (.bool tbr)∧W.cell? ⟨b,69,none⟩=some (.bool tbs)∧W.cell? ⟨b,70,none⟩=some (.int .u8 (k2:Int))∧W.cell? ⟨b,71,none⟩=some (.bool m2)∧W.cell? ⟨b,72,none⟩=some (.int .i64 q2)∧W.cell? ⟨b,73,none⟩=some (.int .i64 s2)∧W.cell? ⟨b,74,none⟩=some (.slice ya2 yn2 yc2)∧W.cell? ⟨b,75,none⟩=some (.bool fbr)∧W.cell? ⟨b,76,none⟩=some (.bool fbs)∧W.cell? ⟨b,77,none⟩=some (.slice xa xn xc)):=fun W hW=>⟨(hs.bel hW).pt.2.1,(hs.bel hW).pt.2.2.2.2.2.2.2.2.2.2.2.2.2.1,(hs.bel hW).pt.2.2.2.2.2.2.2.2.2.2.2.2.2.2.1,(hs.bel hW).pt.2.2.2.2.2.2.2.2.2.2.2.2.2.2.2.1,(hs.bel hW).pt.2.2.2.2.2.2.2.2.2.2.2.2.2.2.2.2.1,(hs.bel hW).tw.2.1,(hs.bel hW).tw.2.2.1,(hs.bel hW).tw.2.2.2.1,(hs.bel hW).tw.2.2.2.2.1,(hs.bel hW).tw.2.2.2.2.2,(hs.bel hW).t68,(hs.bel hW).t69,(hs.bel hW).fw.2.1,(hs.bel hW).fw.2.2.1,(hs.bel hW).fw.2.2.2.1,(hs.bel hW).fw.2.2.2.2.1,(hs.bel hW).fw.2.2.2.2.2,(hs.bel hW).f75,(hs.bel hW).f76,(hs.bel hW).c77⟩
 subst hr
 clear hs hT hF hL hO hxn hB0
 obtain ⟨c0,c12,c13,c14,c15,c63,c64,c65,c66,c67,c68,c69,c70,c71,c72,c73,c74,c75,c76,c77⟩:=HC.out _ bR
 go_enter Tryz.func178,Tryz.ntmps178
 go_upto_region 1 with fail
 go_cut [3,4] (fun v u V=>∃ b3 b4,v=.pointer (some ⟨b3,0,none⟩)∧u=.pointer (some ⟨b4,0,none⟩)∧At V b3 (tyO k m q s ya yn yc)∧At V b4 (tyO k2 m2 q2 s2 ya2 yn2 yc2)∧Below w.heap.size w V)
 case first =>
  go_big_region
  all_goals (go_wp2_with fail)
  all_goals (go_meet)
  all_goals first|exact ⟨_,_,rfl,rfl,((At.new _ _).alloc _).drew,(at_snd _ _ _).drew,(belA (belA bR)).drew⟩|exact ⟨_,_,rfl,rfl,(at_snd _ _ _).drew,((At.new _ _).alloc _).drew,(belA (belA bR)).drew⟩
 case rest =>
  obtain ⟨b3,b4,rfl,rfl,hA3,hA4,hB⟩:=hcut
  have HA3:=jH hA3
  have HA4:=jH hA4
  have HB:=jH hB
  clear hA3 hA4 hB
  clear c0 c12 c13 c14 c15 c63 c64 c65 c66 c67 c68 c69 c70 c71 c72 c73 c74 c75 c76 c77
  obtain ⟨c0,c12,c13,c14,c15,c63,c64,c65,c66,c67,c68,c69,c70,c71,c72,c73,c74,c75,c76,c77⟩:=HC.out _ HB.out
  go_wp2_with fail
  go_ret
  exact ⟨rfl,HB.out⟩
theorem op_none {w0 w:World} (hB0:Below w0.heap.size w0 w) (b:Nat) (s:Scv) (hs:ScS w b s) (t f:Ch) (os:List Ch) (hT:TyAt w s.tw.f t.ty) (hF:TyAt w s.fw.f f.ty) (hL:LcAt w s.ta s.tn s.tc (os.map Ch.ty)) (hxn:s.tn≤2000000) (hO:∀ c∈os,Ok c) (hop:s.pv.op=0∨14<s.pv.op) (r:Bool) (hr:r=false) :
  Calls Tryz.prog 178 #[.pointer (some ⟨b,0,none⟩)] w fun e w'=>e=.returned (.bool r)∧Below w.heap.size w w':=by
 obtain ⟨⟨op,⟨tl,ta,tn,tc⟩,⟨ak,an,al,aa,am,ac⟩,⟨bk,bn,bl,ba,bm,bc⟩,ra,rn,rc,sg,⟨fl,fa,fm,fc⟩,mu,fn,st,nx,el,ps⟩,sa,sn,sc,ua,un,ucap,mn,nm,lv,oa,on,oc,pa,la,ln,lc,na,nn,nc,qa,qn,qc,dr,⟨⟨k,m,q,s,ya,yn,yc⟩,tbr,tbs⟩,⟨⟨k2,m2,q2,s2,ya2,yn2,yc2⟩,fbr,fbs⟩,xa,xn,xc⟩:=s
 have hlt:b<w.heap.size:=hs.lt
 have hop2:op=0∨14<op:=hop
 subst hr
 have o1:¬ (op:Int)=1:=by omega
 have p1:((op:Int) == 1)=false:=by simp;omega
 have o2:¬ (op:Int)=2:=by omega
 have p2:((op:Int) == 2)=false:=by simp;omega
 have o3:¬ (op:Int)=3:=by omega
 have p3:((op:Int) == 3)=false:=by simp;omega
 have o4:¬ (op:Int)=4:=by omega
 have p4:((op:Int) == 4)=false:=by simp;omega
 have o5:¬ (op:Int)=5:=by omega
 have p5:((op:Int) == 5)=false:=by simp;omega
 have o6:¬ (op:Int)=6:=by omega
 have p6:((op:Int) == 6)=false:=by simp;omega
 have o7:¬ (op:Int)=7:=by omega
 have p7:((op:Int) == 7)=false:=by simp;omega
 have o8:¬ (op:Int)=8:=by omega
 have p8:((op:Int) == 8)=false:=by simp;omega
 have o9:¬ (op:Int)=9:=by omega
 have p9:((op:Int) == 9)=false:=by simp;omega
 have o10:¬ (op:Int)=10:=by omega
 have p10:((op:Int) == 10)=false:=by simp;omega
 have o11:¬ (op:Int)=11:=by omega
 have p11:((op:Int) == 11)=false:=by simp;omega
 have o12:¬ (op:Int)=12:=by omega
 have p12:((op:Int) == 12)=false:=by simp;omega
 have o13:¬ (op:Int)=13:=by omega
 have p13:((op:Int) == 13)=false:=by simp;omega
 have o14:¬ (op:Int)=14:=by omega
 have p14:((op:Int) == 14)=false:=by simp;omega
 have HC:Hid (∀ W,Below w.heap.size w W→W.cell? ⟨b,0,none⟩=some (.int .u8 (op:Int))∧W.cell? ⟨b,12,none⟩=some (.string sg)∧W.cell? ⟨b,13,none⟩=some (.int .i64 fl)∧W.cell? ⟨b,14,none⟩=some (.slice fa fm fc)∧W.cell? ⟨b,15,none⟩=some (.bool mu)∧W.cell? ⟨b,63,none⟩=some (.int .u8 (k:Int))∧W.cell? ⟨b,64,none⟩=some (.bool m)∧W.cell? ⟨b,65,none⟩=some (.int .i64 q)∧W.cell? ⟨b,66,none⟩=some (.int .i64 s)∧W.cell? ⟨b,67,none⟩=some (.slice ya yn yc)∧W.cell? ⟨b,68,none⟩=some (.bool tbr)∧W.cell? ⟨b,69,none⟩=some (.bool tbs)∧W.cell? ⟨b,70,none⟩=some (.int .u8 (k2:Int))∧W.cell? ⟨b,71,none⟩=some (.bool m2)∧W.cell? ⟨b,72,none⟩=some (.int .i64 q2)∧W.cell? ⟨b,73,none⟩=some (.int .i64 s2)∧W.cell? ⟨b,74,none⟩=some (.slice ya2 yn2 yc2)∧W.cell? ⟨b,75,none⟩=some (.bool fbr)∧W.cell? ⟨b,76,none⟩=some (.bool fbs)∧W.cell? ⟨b,77,none⟩=some (.slice xa xn xc)):=fun W hW=>⟨(hs.bel hW).pt.2.1,(hs.bel hW).pt.2.2.2.2.2.2.2.2.2.2.2.2.2.1,(hs.bel hW).pt.2.2.2.2.2.2.2.2.2.2.2.2.2.2.1,(hs.bel hW).pt.2.2.2.2.2.2.2.2.2.2.2.2.2.2.2.1,(hs.bel hW).pt.2.2.2.2.2.2.2.2.2.2.2.2.2.2.2.2.1,(hs.bel hW).tw.2.1,(hs.bel hW).tw.2.2.1,(hs.bel hW).tw.2.2.2.1,(hs.bel hW).tw.2.2.2.2.1,(hs.bel hW).tw.2.2.2.2.2,(hs.bel hW).t68,(hs.bel hW).t69,(hs.bel hW).fw.2.1,(hs.bel hW).fw.2.2.1,(hs.bel hW).fw.2.2.2.1,(hs.bel hW).fw.2.2.2.2.1,(hs.bel hW).fw.2.2.2.2.2,(hs.bel hW).f75,(hs.bel hW).f76,(hs.bel hW).c77⟩
 clear hs hT hF hL hO hxn hB0 hop hop2
 obtain ⟨c0,c12,c13,c14,c15,c63,c64,c65,c66,c67,c68,c69,c70,c71,c72,c73,c74,c75,c76,c77⟩:=HC.out _ bR
 go_enter Tryz.func178,Tryz.ntmps178
 go_upto_region 1 with fail
 go_cut [3,4] (fun v u V=>∃ b3 b4,v=.pointer (some ⟨b3,0,none⟩)∧u=.pointer (some ⟨b4,0,none⟩)∧At V b3 (tyO k m q s ya yn yc)∧At V b4 (tyO k2 m2 q2 s2 ya2 yn2 yc2)∧Below w.heap.size w V)
 case first =>
  go_big_region
  all_goals (go_wp2_with fail)
  all_goals (go_meet)
  all_goals first|exact ⟨_,_,rfl,rfl,((At.new _ _).alloc _).drew,(at_snd _ _ _).drew,(belA (belA bR)).drew⟩|exact ⟨_,_,rfl,rfl,(at_snd _ _ _).drew,((At.new _ _).alloc _).drew,(belA (belA bR)).drew⟩
 case rest =>
  obtain ⟨b3,b4,rfl,rfl,hA3,hA4,hB⟩:=hcut
  have HA3:=jH hA3
  have HA4:=jH hA4
  have HB:=jH hB
  clear hA3 hA4 hB
  clear c0 c12 c13 c14 c15 c63 c64 c65 c66 c67 c68 c69 c70 c71 c72 c73 c74 c75 c76 c77
  obtain ⟨c0,c12,c13,c14,c15,c63,c64,c65,c66,c67,c68,c69,c70,c71,c72,c73,c74,c75,c76,c77⟩:=HC.out _ HB.out
  go_wp2_with fail
  go_ret
  exact ⟨rfl,HB.out⟩
theorem size127:(Tryz.prog.info? 231).map (·.size)=some 32:=by kernel_rfl
theorem Arr.rng {w:World} {b t:Nat} {v:Nat→Value} (h:Arr w b t v):w.rangeAt b 0 ((List.range 32).map v):=fun j u hj=>by
 rw [List.getElem?_map,Option.map_eq_some_iff] at hj
 obtain ⟨i,hi,rfl⟩:=hj
 have h1:j<32:=by have:=(List.getElem?_eq_some_iff.1 hi).1;simpa using this
 have h2:i=j:=by rw [List.getElem?_range h1] at hi;cases hi;rfl
 subst h2
 rw [Nat.zero_add]
 exact At.arrc h h1
theorem Arr.ther {w:World} {b t:Nat} {v:Nat→Value} (h:Arr w b t v):w.there b 0 32:=fun j hj=>by
 rw [Nat.zero_add]
 exact ⟨by rw [At.arrc h hj];rfl,At.arrf h j⟩
theorem wpl_loadA {w:World} {ops:Array Oper} {rest:List Oper} {a:Act} {Q:Exit→Act→World→Prop} {x d:Nat} {ty:TypeId} {pos:String} {after:Array Edge} {desc:TypeDesc} (b:Nat) (v:Nat→Value) (hA:Arr w b 231 v) (hx:a.eval (.tmp x)=.pointer (some ⟨b,0,none⟩)) (hu:Tryz.prog.underlying 231=some desc) (hd:desc.isRow=true)
  (h:wpList Tryz.prog ops Q rest (a.put (some d) (.agg (arr v))) w):wpList Tryz.prog ops Q (⟨some d,.load 231 (.tmp x),ty,pos,after,none⟩::rest) a w :=
 wpList_load_mid rfl 231 (.tmp x) rfl b 0 hx ((List.range 32).map v) desc (Arr.rng hA) hu hd (by rw [List.length_map,List.length_range];exact size127) h
theorem wpl_storeA {w:World} {ops:Array Oper} {rest:List Oper} {a:Act} {Q:Exit→Act→World→Prop} {x y:Nat} {ty:TypeId} {pos:String} {after:Array Edge} (b:Nat) (v0:Nat→Value) (M:Nat→Bool) (hA:Arr w b 231 v0)
  (hx:a.eval (.tmp x)=.pointer (some ⟨b,0,none⟩)) (hy:a.eval (.tmp y)=.agg (arr (bV M))) (h:∀ w',Arr w' b 231 (bV M)→But b w w'→wpList Tryz.prog ops Q rest a w'):wpList Tryz.prog ops Q (⟨none,.store 231 (.tmp x) (.tmp y),ty,pos,after,none⟩::rest) a w:=by
 refine wpList_store_mid rfl 231 (.tmp x) (.tmp y) rfl b 0 (arr (bV M)) hx hy (by rw [arr_size];exact Arr.ther hA) (by rw [arr_size];exact size127) ?_ ?_
 ·rw [Array.all_eq_true_iff_forall_mem]
  intro u hu
  simp [arr,bV] at hu
  obtain ⟨i,-,rfl⟩:=hu
  rfl
 ·refine h _ ?_ (but_setCells b _ 0 w)
  obtain ⟨C',k1,k2,k3,k4,k5⟩:=setCells_at b 231 (arr (bV M)).toList 0 w (arr v0) hA
  have e:C'=arr (bV M):=by
   apply Array.ext_getElem?
   intro i
   by_cases hi:i<32
   ·have:=k4 i (by simpa [arr_size] using hi) (by rw [arr_size];omega)
    rw [Nat.zero_add] at this
    rw [this]
    simp
   ·rw [Array.getElem?_eq_none (by rw [k2,arr_size];omega),Array.getElem?_eq_none (by rw [arr_size];omega)]
  rw [e] at k1
  exact k1
theorem Tryz.results173:Tryz.f173.results=#[.cell 2 231]:=rfl
theorem results_a {fn:Func} {i:Nat} (h:fn.results=#[.cell i 231]) {tmps:Array Value} {W:World} {b4:Nat} {v:Nat→Value} {desc:TypeDesc} (hu:Tryz.prog.underlying 231=some desc) (hd:desc.isRow=true) (ht:tmps.getD i undef=.pointer (some ⟨b4,0,none⟩)) (hC:Arr W b4 231 v):(results fn tmps).run Tryz.prog W=.ok (.agg (arr v)) W:=by
 have ht2:tmps[i]?.getD undef=.pointer (some ⟨b4,0,none⟩):=by rw [← ht];simp
 have hl:=run_loadVar_mid (P:=Tryz.prog) W b4 0 231 ((List.range 32).map v) desc (Arr.rng hC) hu hd (by rw [List.length_map,List.length_range];exact size127)
 simp only [results,h]
 have ha:Sem.run Tryz.prog (asAddr (Value.pointer (some ⟨b4,0,none⟩))) W=.ok ⟨b4,0,none⟩ W:=rfl
 simp [ht2,ha,hl,arr]
def dU (ss:List (List Ty)) (i:Nat):Nat→Bool:=fun j=>decide (j<i) && dp ss j
theorem dU_next (ss:List (List Ty)) (i:Nat):upd (dU ss i) i (dp ss i)=dU ss (i+1):=by
 funext j
 unfold upd dU
 by_cases h:j=i
 ·subst h;simp
 ·rw [if_neg h]
  congr 1
  rw [Bool.eq_iff_iff]
  simp
  omega
theorem dU_zero (ss:List (List Ty)):dU ss 0=fun _=>false:=by
 funext j
 unfold dU
 simp
theorem dropsOf_any (a:Option Addr) (n cap:Nat) (ss:List (List Ty)) (w:World) (h:StAt w a n cap ss) (b1 b2 b3:Nat→Bool) (hb:Flt ss b1 b2 b3) (hok:(stRes n b1 b2 b3).2=0) :
  Calls Tryz.prog 173 #[.slice a n cap] w fun e w'=>e=.returned (.agg (arr (bV (dU ss n))))∧Below w.heap.size w w':=by
 have hn:n≤32:=by have:=(stRes_ok hok).1;omega
 have CD:Hid (∀ (W:World) (i:Nat),Below w.heap.size w W→i<n→Calls Tryz.prog 188 #[.slice a n cap,tyV 5 false 0 (i:Int) none 0 0] W fun e w'=>e=.returned (.tuple #[.bool (dp ss i),.int .i64 0])∧Below W.heap.size W w'):=fun W i hW hi =>
  Drops_yes a n cap ss W (h.bel hW) b1 b2 b3 hb (Ch.leaf 5 (i:Int)).ty ⟨5,false,0,(i:Int),none,0,0⟩ (TyAt.mkLeaf 5 (i:Int) (by decide) (by omega) (by omega) none 0) (by
   unfold mayS
   rw [decide_eq_true hok,Bool.true_and]
   exact ch_mayB (c:=Ch.leaf 5 (i:Int)) (.inr ⟨rfl,by omega,by omega⟩) (by simp [Ch.depth])) (dp ss i) (by show _=dpT ss (Ty.mk 5 false 0 (i:Int) []);unfold dpT subT;simp)
 have HA1:Hid (∀ o,o=Obj.cells (arr (bV fun _=>false)) 231→Arr (w.alloc o) w.heap.size 231 (bV fun _=>false)):=jH (fun o e=>by subst e;exact At.new _ _)
 have n0:(n:Int)≤32:=by omega
 clear h hb hok
 go_enter Tryz.func173,Tryz.ntmps173
 go_wp2_with fail
 go_loopw [6] (fun v V=>∃ i:Nat,i≤n∧v=.int .i64 (i:Int)∧Arr V w.heap.size 231 (bV (dU ss i))∧Below w.heap.size w V) (fun v _=>n - (intOf v).toNat)
 case atStart=>exact ⟨0,Nat.zero_le _,rfl,by rw [dU_zero];exact HA1.out _ (by rw [arr_false]),belA bR⟩
 case round =>
  clear HA1
  obtain ⟨i,hi,rfl,hA,hB⟩:=hrel
  have HA:=jH hA
  have HB:=jH hB
  clear hA hB
  by_cases hlt:i<n
  ·have i0:(0:Int)≤(i:Int):=by omega
   have i1:(i:Int)<(n:Int):=by omega
   have i2:(i:Int)<32:=by omega
   obtain ⟨x,hx⟩:∃ x,x=dp ss i:=⟨_,rfl⟩
   have C:=jH (CD.out wr i HB.out hlt)
   rw [← hx] at C
   have HX:=jH hx
   have HLT:=jH hlt
   have HI2:Hid (i<32):=by show i<32;omega
   clear hx hlt hi CD
   go_wp2_with (go_at_call 188;refine C.out.mono ?_;rintro e w2 ⟨rfl,hb2⟩;have HA2:=jH (HA.out.below hb2);have HB2:=jH (jB HB.out hb2);clear hb2;have hc:=At.arrc HA2.out HI2.out;have hf:=At.arrf HA2.out i;have hbl:=At.lt HA2.out)
   refine ⟨⟨i+1,HLT.out,rfl,?_,?_⟩,?_⟩
   ·have e:=At.arrs HA2.out i (.bool x)
    rw [bV_upd,HX.out,dU_next] at e
    rw [HX.out]
    exact e
   ·exact HB2.out.setCell (Nat.le_refl _) _
   ·show n - ((i:Int)+1).toNat<n - (i:Int).toNat
    have:=HLT.out
    omega
  ·obtain rfl:i=n:=by omega
   have lt:¬ (i:Int)<(i:Int):=by omega
   clear hlt hi CD
   go_wp2_with (first
    | ((with_reducible show wpList _ _ _ (Oper.mk (some _) (Op.load 231 _) _ _ _ none::_) _ _);refine wpl_loadA w.heap.size _ HA.out rfl Tryz.underlying231 rfl ?_)
    | ((with_reducible show wpList _ _ _ (Oper.mk none (Op.store 231 _ _) _ _ _ none::_) _ _);refine wpl_storeA w.heap.size _ (dU ss i) HA.out rfl rfl ?_;intro w3 hA3 hb3;have HA3:=jH hA3;have HB3:=jH (belBut HB.out hb3 (Nat.le_refl _) HB.out.size);clear hA3 hb3))
   exact bodyPost_ret (results_a Tryz.results173 Tryz.underlying231 rfl rfl HA3.out) rfl ⟨rfl,HB3.out⟩
end Go.Proofs.YtmjenlogbkbgnaaGreatDoor
