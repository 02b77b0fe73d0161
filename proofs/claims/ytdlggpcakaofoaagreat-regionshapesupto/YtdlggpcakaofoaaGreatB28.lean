import Derived.Test.YtdlggpcakaofoaaGreatB27
import Derived.Test.YtdlggpcakaofoaaGreatB18
import Derived.BigRegion
namespace Go.Proofs.YtdlggpcakaofoaaGreat
open Go.RowKit Go.Shelf
set_option linter.unusedVariables false
set_option linter.unusedSimpArgs false
set_option maxRecDepth 100000
set_option maxHeartbeats 16000000
structure OuAt (w:World) (oa:Option Addr) (on oc:Nat) (ou:List (Int × Int)):Prop where
 len:on=ou.length
 big:on≤1100000
 at_:∀ (i:Nat) (o:Int × Int),ou[i]?=some o→∃ g off,oa=some ⟨g,off,none⟩∧g<w.heap.size∧w.cell? ⟨g,off+i*2,none⟩=some (.int .i64 o.1)∧w.cell? ⟨g,off+i*2+1,none⟩=some (.int .i64 o.2)
theorem OuAt.bel {w w':World} {oa:Option Addr} {on oc:Nat} {ou:List (Int × Int)} (h:OuAt w oa on oc ou) (hb:Below w.heap.size w w'):OuAt w' oa on oc ou :=
 ⟨h.len,h.big,fun i o hi=>by
  obtain ⟨g,off,e,hg,h1,h2⟩:=h.at_ i o hi
  exact ⟨g,off,e,Nat.lt_of_lt_of_le hg hb.size,(cells_bel hg hb _).trans h1,(cells_bel hg hb _).trans h2⟩⟩
def oS (lv:Int) (a o:Int × Int):Bool:=decide (0≤o.1) && decide (o.1<lv) && (decide (0≤o.2) && decide (o.2<lv)) && !decide (o.1=o.2) && (decide (a.1<o.1) || decide (a.1=o.1) && decide (a.2<o.2))
def chkB (lv:Int):Int × Int→List (Int × Int)→Bool
 | _,[]=>true
 | a,o::l=>oS lv a o && chkB lv o l
theorem chk_out (lv:Int):∀ (l:List (Int × Int)) (a:Int × Int),chkB lv a l=(l.all (fun o=>decide (0≤o.1) && decide (o.1<lv) && (decide (0≤o.2) && decide (o.2<lv)) && !decide (o.1=o.2)) && riseB a l)
 | [],a=>rfl
 | o::l,a=>by
  have ih:=chk_out lv l o
  simp only [chkB,ih,oS,List.all_cons,riseB]
  cases (decide (0≤o.1) && decide (o.1<lv) && (decide (0≤o.2) && decide (o.2<lv)) && !decide (o.1=o.2)) <;> cases (decide (a.1<o.1) || decide (a.1=o.1) && decide (a.2<o.2)) <;> cases riseB o l <;> simp
def prevO (a:Int × Int) (ou:List (Int × Int)):Nat→Int × Int
 | 0=>a
 | k+1=>(ou[k]?).getD a
theorem chk_iff (lv:Int):∀ (l:List (Int × Int)) (a:Int × Int),chkB lv a l=true↔∀ (k:Nat) (o:Int × Int),l[k]?=some o→oS lv (prevO a l k) o=true
 | [],a=>by simp [chkB]
 | o::l,a=>by
  rw [chkB,Bool.and_eq_true,chk_iff lv l o]
  constructor
  ·rintro ⟨h1,h2⟩ k o' hk
   cases k with
   | zero=>simp at hk;subst hk;exact h1
   | succ k =>
    have hk':l[k]?=some o':=by simpa using hk
    have:=h2 k o' hk'
    cases k with
    | zero=>exact this
    | succ k =>
     have hl:k<l.length:=by have:=(List.getElem?_eq_some_iff.1 hk').1;omega
     show oS lv (((o::l)[k+1]?).getD a) o'=true
     have e:((o::l)[k+1]?).getD a=(l[k]?).getD o:=by simp [List.getElem?_eq_getElem hl]
     rw [e]
     exact this
  ·intro h
   refine ⟨h 0 o rfl,fun k o' hk=>?_⟩
   have:=h (k+1) o' (by simpa using hk)
   cases k with
   | zero=>exact this
   | succ k =>
    have hl:k<l.length:=by have:=(List.getElem?_eq_some_iff.1 hk).1;omega
    have e:((o::l)[k+1]?).getD a=(l[k]?).getD o:=by simp [List.getElem?_eq_getElem hl]
    have this2:oS lv (((o::l)[k+1]?).getD a) o'=true:=this
    rw [e] at this2
    exact this2
def mO (l:List (Int × Int)) (a b:Nat):Bool:=decide (((a:Int),(b:Int))∈l)
theorem zeros64:#[.bool false,.bool false,.bool false,.bool false,.bool false,.bool false,.bool false,.bool false,.bool false,.bool false,.bool false,.bool false,.bool false,.bool false,.bool false,.bool false,.bool false,.bool false,.bool false,.bool false,.bool false,.bool false,.bool false,.bool false,.bool false,.bool false,.bool false,.bool false,.bool false,.bool false,.bool false,.bool false,.bool false,.bool false,.bool false,.bool false,.bool false,.bool false,.bool false,.bool false,.bool false,.bool false,.bool false,.bool false,.bool false,.bool false,.bool false,.bool false,.bool false,.bool false,.bool false,.bool false,.bool false,.bool false,.bool false,.bool false,.bool false,.bool false,.bool false,.bool false,.bool false,.bool false,.bool false,.bool false]=Array.replicate 64 (Value.bool false):=by rfl
structure Mx8 (w:World) (b:Nat) (M:Nat→Nat→Bool):Prop where
 blk:∃ C:Array Value,At w b (.cells C 193 (0,0))∧C.size=64
 rel:Rel w b M
theorem Mx8.new (w:World):Mx8 (w.alloc (.cells #[.bool false,.bool false,.bool false,.bool false,.bool false,.bool false,.bool false,.bool false,.bool false,.bool false,.bool false,.bool false,.bool false,.bool false,.bool false,.bool false,.bool false,.bool false,.bool false,.bool false,.bool false,.bool false,.bool false,.bool false,.bool false,.bool false,.bool false,.bool false,.bool false,.bool false,.bool false,.bool false,.bool false,.bool false,.bool false,.bool false,.bool false,.bool false,.bool false,.bool false,.bool false,.bool false,.bool false,.bool false,.bool false,.bool false,.bool false,.bool false,.bool false,.bool false,.bool false,.bool false,.bool false,.bool false,.bool false,.bool false,.bool false,.bool false,.bool false,.bool false,.bool false,.bool false,.bool false,.bool false] 193 (0,0))) w.heap.size (mO []):=by
 have hA:=At.new w (.cells (Array.replicate 64 (Value.bool false)) 193 (0,0))
 rw [zeros64]
 refine ⟨⟨_,hA,by simp⟩,hA.lt,fun i j hi hj=>?_⟩
 unfold At at hA
 rw [cell_of_row _ _ _ _ _ _ hA]
 rw [Array.getElem?_replicate,if_pos (by omega)]
 simp [mO]
theorem Mx8.bel {w w':World} {b:Nat} {M:Nat→Nat→Bool} (h:Mx8 w b M) (hb:Below w.heap.size w w'):Mx8 w' b M:=by
 obtain ⟨C,hA,hs⟩:=h.blk
 exact ⟨⟨C,hA.below hb,hs⟩,h.rel.bel hb⟩
theorem Mx8.but {w w':World} {b c:Nat} {M:Nat→Nat→Bool} (h:Mx8 w b M) (hb:But c w w') (hn:b≠c):Mx8 w' b M:=by
 obtain ⟨C,hA,hs⟩:=h.blk
 exact ⟨⟨C,hA.grown hb (by simp;exact hn),hs⟩,h.rel.but hb hn⟩
theorem Mx8.cell {w:World} {b:Nat} {M:Nat→Nat→Bool} (h:Mx8 w b M) {i j:Nat} (hi:i<8) (hj:j<8):w.cell? ⟨b,i*8+j,none⟩=some (.bool (M i j))∧w.frozen? ⟨b,i*8+j,none⟩=false:=by
 obtain ⟨C,hA,hs⟩:=h.blk
 exact ⟨h.rel.2 i j hi hj,frozen_of_row _ _ _ _ _ hA⟩
theorem Mx8.set {w:World} {b:Nat} {l:List (Int × Int)} (h:Mx8 w b (mO l)) {i j:Nat} (hi:i<8) (hj:j<8):Mx8 (w.setCell ⟨b,i*8+j,none⟩ (.bool true)) b (mO (l++[((i:Int),(j:Int))])):=by
 obtain ⟨C,hA,hs⟩:=h.blk
 have h1:At (w.setCell ⟨b,i*8+j,none⟩ (.bool true)) b (.cells (C.setIfInBounds (i*8+j) (.bool true)) 193 (0,0)):=heap_setCell_same w b (i*8+j) C 193 (.bool true) hA
 refine ⟨⟨_,h1,by rw [Array.size_setIfInBounds,hs]⟩,h1.lt,fun x y hx hy=>?_⟩
 have h2:=h.rel.2 x y hx hy
 unfold At at h1 hA
 rw [cell_of_row _ _ _ _ _ _ hA] at h2
 rw [cell_of_row _ _ _ _ _ _ h1]
 by_cases e:x=i∧y=j
 ·obtain ⟨rfl,rfl⟩:=e
  rw [show mO (l++[((x:Int),(y:Int))]) x y=true by simp [mO]]
  simp only [Array.getElem?_setIfInBounds_self]
  rw [if_pos (by omega)]
 ·rw [Array.getElem?_setIfInBounds_ne (by omega),h2]
  congr 2
  unfold mO
  rw [Bool.eq_iff_iff]
  simp only [decide_eq_true_iff,List.mem_append,List.mem_singleton,Prod.mk.injEq]
  constructor
  ·exact .inl
  ·rintro (h|h)
   ·exact h
   ·exact absurd ⟨by omega,by omega⟩ e
structure OU (w V:World) (nm:ByteArray) (lv:Int) (oa:Option Addr) (on oc:Nat) (pa:Int) (la:Option Addr) (ln lc:Nat) (na:Option Addr) (nn nc:Nat) (qa:Option Addr) (qn qc:Nat) (sa:Option Addr) (sn sc:Nat) (im:Bool) (M:Nat→Nat→Bool) (l:Int × Int):Prop where
 hd:At V w.heap.size (hO nm lv oa on oc pa la ln lc na nn nc qa qn qc sa sn sc im)
 mx:Mx8 V (w.heap.size+1) M
 la:At V (w.heap.size+2) (.cells #[.int .i64 l.1,.int .i64 l.2] 130 (0,0))
 bel:Below w.heap.size w V
theorem OU.aft {w V V':World} {nm:ByteArray} {lv:Int} {oa:Option Addr} {on oc:Nat} {pa:Int} {la:Option Addr} {ln lc:Nat} {na:Option Addr} {nn nc:Nat} {qa:Option Addr} {qn qc:Nat} {sa:Option Addr} {sn sc:Nat} {im:Bool} {M:Nat→Nat→Bool} {l:Int × Int} (h:OU w V nm lv oa on oc pa la ln lc na nn nc qa qn qc sa sn sc im M l) (hb:Below V.heap.size V V'):OU w V' nm lv oa on oc pa la ln lc na nn nc qa qn qc sa sn sc im M l:=⟨h.hd.below hb,h.mx.bel hb,h.la.below hb,jB h.bel hb⟩
theorem OU.start (w:World) (nm:ByteArray) (lv:Int) (oa:Option Addr) (on oc:Nat) (pa:Int) (la:Option Addr) (ln lc:Nat) (na:Option Addr) (nn nc:Nat) (qa:Option Addr) (qn qc:Nat) (sa:Option Addr) (sn sc:Nat) (im:Bool):OU w (((w.alloc (hO nm lv oa on oc pa la ln lc na nn nc qa qn qc sa sn sc im)).alloc (.cells #[.bool false,.bool false,.bool false,.bool false,.bool false,.bool false,.bool false,.bool false,.bool false,.bool false,.bool false,.bool false,.bool false,.bool false,.bool false,.bool false,.bool false,.bool false,.bool false,.bool false,.bool false,.bool false,.bool false,.bool false,.bool false,.bool false,.bool false,.bool false,.bool false,.bool false,.bool false,.bool false,.bool false,.bool false,.bool false,.bool false,.bool false,.bool false,.bool false,.bool false,.bool false,.bool false,.bool false,.bool false,.bool false,.bool false,.bool false,.bool false,.bool false,.bool false,.bool false,.bool false,.bool false,.bool false,.bool false,.bool false,.bool false,.bool false,.bool false,.bool false,.bool false,.bool false,.bool false,.bool false] 193 (0,0))).alloc (.cells #[.int .i64 (-1),.int .i64 0] 130 (0,0))) nm lv oa on oc pa la ln lc na nn nc qa qn qc sa sn sc im (mO []) (-1,0):=by
 refine ⟨((At.new _ _).alloc _).alloc _,?_,?_,belA (belA (belA bR))⟩
 ·have:=(Mx8.new (w.alloc (hO nm lv oa on oc pa la ln lc na nn nc qa qn qc sa sn sc im))).bel (belA bR:Below _ _ (((w.alloc (hO nm lv oa on oc pa la ln lc na nn nc qa qn qc sa sn sc im)).alloc (.cells #[.bool false,.bool false,.bool false,.bool false,.bool false,.bool false,.bool false,.bool false,.bool false,.bool false,.bool false,.bool false,.bool false,.bool false,.bool false,.bool false,.bool false,.bool false,.bool false,.bool false,.bool false,.bool false,.bool false,.bool false,.bool false,.bool false,.bool false,.bool false,.bool false,.bool false,.bool false,.bool false,.bool false,.bool false,.bool false,.bool false,.bool false,.bool false,.bool false,.bool false,.bool false,.bool false,.bool false,.bool false,.bool false,.bool false,.bool false,.bool false,.bool false,.bool false,.bool false,.bool false,.bool false,.bool false,.bool false,.bool false,.bool false,.bool false,.bool false,.bool false,.bool false,.bool false,.bool false,.bool false] 193 (0,0))).alloc (.cells #[.int .i64 (-1),.int .i64 0] 130 (0,0))))
  simpa only [World.size_alloc] using this
 ·have:=At.new ((w.alloc (hO nm lv oa on oc pa la ln lc na nn nc qa qn qc sa sn sc im)).alloc (.cells #[.bool false,.bool false,.bool false,.bool false,.bool false,.bool false,.bool false,.bool false,.bool false,.bool false,.bool false,.bool false,.bool false,.bool false,.bool false,.bool false,.bool false,.bool false,.bool false,.bool false,.bool false,.bool false,.bool false,.bool false,.bool false,.bool false,.bool false,.bool false,.bool false,.bool false,.bool false,.bool false,.bool false,.bool false,.bool false,.bool false,.bool false,.bool false,.bool false,.bool false,.bool false,.bool false,.bool false,.bool false,.bool false,.bool false,.bool false,.bool false,.bool false,.bool false,.bool false,.bool false,.bool false,.bool false,.bool false,.bool false,.bool false,.bool false,.bool false,.bool false,.bool false,.bool false,.bool false,.bool false] 193 (0,0))) (.cells #[.int .i64 (-1),.int .i64 0] 130 (0,0))
  simpa only [World.size_alloc] using this
theorem OU.last {w V:World} {nm:ByteArray} {lv:Int} {oa:Option Addr} {on oc:Nat} {pa:Int} {la:Option Addr} {ln lc:Nat} {na:Option Addr} {nn nc:Nat} {qa:Option Addr} {qn qc:Nat} {sa:Option Addr} {sn sc:Nat} {im:Bool} {M:Nat→Nat→Bool} {l:Int × Int} (h:OU w V nm lv oa on oc pa la ln lc na nn nc qa qn qc sa sn sc im M l) (p q:Int):OU w ((V.setCell ⟨w.heap.size+2,0,none⟩ (.int .i64 p)).setCell ⟨w.heap.size+2,1,none⟩ (.int .i64 q)) nm lv oa on oc pa la ln lc na nn nc qa qn qc sa sn sc im M (p,q):=by
 have hb:But (w.heap.size+2) V ((V.setCell ⟨w.heap.size+2,0,none⟩ (.int .i64 p)).setCell ⟨w.heap.size+2,1,none⟩ (.int .i64 q)):=((But.refl _ _).set _ _).set _ _
 exact ⟨h.hd.grown hb (by simp),h.mx.but hb (by omega),heap_setCell_same _ _ 1 _ 130 (.int .i64 q) (heap_setCell_same _ _ 0 _ 130 (.int .i64 p) h.la),belBut h.bel hb (by omega) h.bel.size⟩
theorem at_pair {w:World} {b:Nat} {x y:Int} (h:At w b (.cells #[.int .i64 x,.int .i64 y] 130 (0,0))):w.cell? ⟨b,0,none⟩=some (.int .i64 x)∧w.cell? ⟨b,1,none⟩=some (.int .i64 y)∧w.frozen? ⟨b,0,none⟩=false∧w.frozen? ⟨b,1,none⟩=false:=by
 have hf:=fun o=>frozen_of_row w b o _ 130 h
 unfold At at h
 exact ⟨by simp [World.cell?,h],by simp [World.cell?,h],hf 0,hf 1⟩
theorem impl_regs:∀ (c:Ch) (o:Int × Int),o∈implC c→o.1∈c.regs∧o.2∈c.regs
 | .leaf _ _,o,h=>by simp [implC] at h
 | .box c,o,h=>impl_regs c o h
 | .ref m r c,o,h=>by
  simp only [implC,List.mem_append,List.mem_map] at h
  rcases h with ⟨l,hl,rfl⟩|h
  ·exact ⟨by simp [Ch.regs,hl],by simp [Ch.regs]⟩
  ·have:=impl_regs c o h
   exact ⟨by simp [Ch.regs,this.1],by simp [Ch.regs,this.2]⟩
theorem imC_out {ou:List (Int × Int)} {c:Ch} (hq:∀ q∈c.regs,0≤q∧q<8):imC (mO ou) c=(implC c).all fun o=>decide (o.1=o.2) || decide (o∈ou):=by
 unfold imC
 rw [Bool.eq_iff_iff,List.all_eq_true,List.all_eq_true]
 refine forall_congr' fun o=>⟨fun h ho=>?_,fun h ho=>?_⟩
 all_goals
  have h1:=h ho
  obtain ⟨ha,hb⟩:=impl_regs c o ho
  have e:mO ou o.1.toNat o.2.toNat=decide (o∈ou):=by
   unfold mO
   rw [Int.toNat_of_nonneg (hq _ ha).1,Int.toNat_of_nonneg (hq _ hb).1]
  have key:imB (mO ou) o=(decide (o.1=o.2) || decide (o∈ou)):=by unfold imB;rw [e]
  first
   | (rw [key] at h1;exact h1)
   | (rw [key];exact h1)
theorem closed_out (ou:List (Int × Int)):(∀ x y z,x<8→y<8→z<8→clP (mO ou) x y z)↔((List.range 8).all (fun a=>(List.range 8).all fun b=>(List.range 8).all fun c=>!(decide (((a:Int),(b:Int))∈ou) && decide (((b:Int),(c:Int))∈ou) && !decide (a=c)) || decide (((a:Int),(c:Int))∈ou)))=true:=by
 simp only [List.all_eq_true,List.mem_range]
 constructor
 ·intro h a ha b hb c hc
  have:=h a b c ha hb hc
  unfold clP mO at this
  simp only [decide_eq_true_iff] at this
  by_cases h1:((a:Int),(b:Int))∈ou <;> by_cases h2:((b:Int),(c:Int))∈ou <;> by_cases h3:a=c <;> simp [h1,h2,h3]
  exact this h1 h2 h3
 ·intro h x y z hx hy hz h1 h2 h3
  have:=h x hx y hy z hz
  unfold mO at *
  rw [decide_eq_true_iff] at *
  simpa [h1,h2,h3] using this
theorem outlives_any (nm:ByteArray) (lv:Int) (oa:Option Addr) (on oc:Nat) (pa:Int) (la:Option Addr) (ln lc:Nat) (na:Option Addr) (nn nc:Nat) (qa:Option Addr) (qn qc:Nat) (sa:Option Addr) (sn sc:Nat) (im:Bool) (w:World) (ou:List (Int × Int)) (hO:OuAt w oa on oc ou) (cl:List Ch) (hL:LcAt w la ln lc (cl.map Ch.ty)) (hok:∀ c∈cl,Ok c) (hlv:lv≤8) (hpa:0≤pa∧pa≤8∧pa<(ln:Int)) (hl1:ln≤512) (hlc:ln≤lc) (hq:∀ (n:Nat) (c:Ch),cl[n]?=some c→∀ q∈c.regs,regP lv pa n q) (r:Bool) (hr:r=outlB lv ou (cl.take (pa.toNat+1))) :
  Calls Tryz.prog 103 #[hV nm lv oa on oc pa la ln lc na nn nc qa qn qc sa sn sc im] w fun e w'=>e=.returned (.bool r)∧Below w.heap.size w w':=by
 have HST:=jH (OU.start w nm lv oa on oc pa la ln lc na nn nc qa qn qc sa sn sc im)
 have HOU:=jH hO
 have HR:=jH hr
 have n0:(on:Int)≤1100000:=by have:=hO.big;omega
 obtain ⟨k,rfl⟩:∃ k:Nat,pa=(k:Int):=⟨pa.toNat,by omega⟩
 have hlen:ln=cl.length:=by have:=hL.len;rw [List.length_map] at this;exact this
 have HCI:Hid (∀ (W:World) (M:Nat→Nat→Bool),Below w.heap.size w W→Rel W (w.heap.size+1) M→Calls Tryz.prog 138 #[.pointer (some ⟨w.heap.size+1,0,none⟩),.slice la (k+1) lc] W fun e w'=>e=.returned (.bool ((cl.take (k+1)).all (imC M)))∧Below W.heap.size W w'):=fun W M hW hM =>
  hasImplied_any W _ M hM la (k+1) lc (cl.take (k+1)) (by
   refine ⟨by rw [List.length_map,List.length_take];omega,by unfold maxLen;omega,fun hne=>?_⟩
   obtain ⟨g,off,e,hc⟩:=(hL.bel hW).cells (fun e=>by simp at e;subst e;simp at hlen;omega)
   refine ⟨g,off,e,fun i t hi=>hc i t ?_⟩
   rw [List.getElem?_map] at hi ⊢
   rw [List.getElem?_take] at hi
   split at hi
   ·exact hi
   ·cases hi) (by omega) (fun c hc=>hok c (List.mem_of_mem_take hc)) (fun c hc q hqq=>by
   obtain ⟨i,hi⟩:=List.getElem?_of_mem hc
   rw [List.getElem?_take] at hi
   split at hi
   ·have:=hq i c hi q hqq
    unfold regP at this
    omega
   ·cases hi) _ rfl
 have HQ8:Hid (∀ c∈cl.take (k+1),∀ q∈c.regs,0≤q∧q<8):=jH (fun c hc q hqq=>by
   obtain ⟨i,hi⟩:=List.getElem?_of_mem hc
   rw [List.getElem?_take] at hi
   split at hi
   ·have:=hq i c hi q hqq
    unfold regP at this
    omega
   ·cases hi)
 obtain ⟨g2,off2,hla⟩:∃ g2 off2,la=some ⟨g2,off2,none⟩:=by
  obtain ⟨g,off,e,-⟩:=hL.cells (fun e=>by simp at e;subst e;simp at hlen;omega)
  exact ⟨g,off,e⟩
 subst hla
 have HLV:Hid (lv≤8):=hlv
 have p0:(k:Int)≤8:=by omega
 have p1:(k:Int)+1≤(lc:Int):=by omega
 have p2:(0:Int)≤(k:Int):=by omega
 have pw:IntKind.i64.wrap ((k:Int)+1)=(k:Int)+1:=by rw [IntKind.wrap_i64] <;> omega
 clear hO hr hL hok hlv hpa hl1 hlc hq hlen
 go_enter Tryz.func103,Tryz.ntmps103
 go_upto_region 3 with fail
 generalize (((w.alloc (hO nm lv oa on oc (k:Int) (some ⟨g2,off2,none⟩) ln lc na nn nc qa qn qc sa sn sc im)).alloc (.cells #[.bool false,.bool false,.bool false,.bool false,.bool false,.bool false,.bool false,.bool false,.bool false,.bool false,.bool false,.bool false,.bool false,.bool false,.bool false,.bool false,.bool false,.bool false,.bool false,.bool false,.bool false,.bool false,.bool false,.bool false,.bool false,.bool false,.bool false,.bool false,.bool false,.bool false,.bool false,.bool false,.bool false,.bool false,.bool false,.bool false,.bool false,.bool false,.bool false,.bool false,.bool false,.bool false,.bool false,.bool false,.bool false,.bool false,.bool false,.bool false,.bool false,.bool false,.bool false,.bool false,.bool false,.bool false,.bool false,.bool false,.bool false,.bool false,.bool false,.bool false,.bool false,.bool false,.bool false,.bool false] 193 (0,0))).alloc (.cells #[.int .i64 (-1),.int .i64 0] 130 (0,0)))=V0 at *
 obtain ⟨d0,d1,d2,d3,d4,d5,d6,d7,d8⟩:=HST.out.hd.hd
 go_wp2_with fail
 clear d0 d1 d2 d3 d4 d5 d6 d7 d8
 go_loopw [12] (fun v V=>∃ i:Nat,i≤on∧v=.int .i64 (i:Int)∧(∀ (j:Nat) (o:Int × Int),j<i→ou[j]?=some o→oS lv (prevO (-1,0) ou j) o=true)∧OU w V nm lv oa on oc (k:Int) (some ⟨g2,off2,none⟩) ln lc na nn nc qa qn qc sa sn sc im (mO (ou.take i)) (prevO (-1,0) ou i)) (fun v _=>on - (intOf v).toNat)
 case atStart=>exact ⟨0,Nat.zero_le _,rfl,fun j o h=>by omega,HST.out⟩
 case round =>
  clear HST
  obtain ⟨i,hi,rfl,h1,hS⟩:=hrel
  have HI1:=jH h1
  have HS:=jH hS
  clear h1 hS
  by_cases hlt:i<on
  ·obtain ⟨o,ho⟩:∃ o,ou[i]?=some o:=⟨_,List.getElem?_eq_getElem (by rw [← HOU.out.len];exact hlt)⟩
   obtain ⟨g,off,ea,hg,c0,c1⟩:=(HOU.out.bel HS.out.bel).at_ i o ho
   have ea2:oa=some ⟨g,off,none⟩:=ea
   subst ea2
   obtain ⟨pv,hpv⟩:∃ pv,pv=prevO (-1,0) ou i:=⟨_,rfl⟩
   rw [← hpv] at HS
   have HPV:Hid (prevO (-1,0) ou i=pv):=hpv.symm
   have HOI:=jH ho
   obtain ⟨o1,o2⟩:=o
   obtain ⟨e1,e2⟩:=pv
   have HS0:Hid (OU w (wr.alloc (.cells #[.int .i64 o1,.int .i64 o2] 130 (0,0))) nm lv (some ⟨g,off,none⟩) on oc (k:Int) (some ⟨g2,off2,none⟩) ln lc na nn nc qa qn qc sa sn sc im (mO (ou.take i)) (e1,e2)):=jH (HS.out.aft (belA bR))
   have HO0:Hid (At (wr.alloc (.cells #[.int .i64 o1,.int .i64 o2] 130 (0,0))) wr.heap.size (.cells #[.int .i64 o1,.int .i64 o2] 130 (0,0))):=jH (At.new _ _)
   have HLB:Hid (w.heap.size+2<wr.heap.size):=jH HS.out.la.lt
   have i0:(0:Int)≤(i:Int):=by omega
   have i1:(i:Int)<(on:Int):=by omega
   have HLT:=jH hlt
   clear ho ea hlt hi hpv HS
   go_upto_region 6 with fail
   generalize wr.alloc (.cells #[.int .i64 o1,.int .i64 o2] 130 (0,0))=W6 at *
   obtain ⟨bo,hbo⟩:∃ bo,bo=wr.heap.size:=⟨_,rfl⟩
   rw [← hbo] at HO0 HLB ⊢
   clear c0 c1 hg hbo
   obtain ⟨a0,a1,a2,a3,a4,a5,a6,a7,a8⟩:=HS0.out.hd.hd
   obtain ⟨o0a,o0b,-,-⟩:=at_pair HO0.out
   obtain ⟨l0a,l0b,-,-⟩:=at_pair HS0.out.la
   simp only at l0a l0b
   obtain ⟨lf1,hlf1⟩:∃ x,x=(decide (0≤o1) && decide (o1<lv)):=⟨_,rfl⟩
   obtain ⟨lf2,hlf2⟩:∃ x,x=(decide (0≤o2) && decide (o2<lv)):=⟨_,rfl⟩
   obtain ⟨ri,hri⟩:∃ x,x=(decide (e1<o1) || decide (e1=o1) && decide (e2<o2)):=⟨_,rfl⟩
   have CL1:Hid (∀ W,Calls Tryz.prog 135 #[hV nm lv (some ⟨g,off,none⟩) on oc (k:Int) (some ⟨g2,off2,none⟩) ln lc na nn nc qa qn qc sa sn sc im,.int .i64 o1] W fun e w'=>e=.returned (.bool lf1)∧Below W.heap.size W w'):=fun W=>isLife_any nm lv (some ⟨g,off,none⟩) on oc (k:Int) (some ⟨g2,off2,none⟩) ln lc na nn nc qa qn qc sa sn sc im o1 W lf1 hlf1
   have CL2:Hid (∀ W,Calls Tryz.prog 135 #[hV nm lv (some ⟨g,off,none⟩) on oc (k:Int) (some ⟨g2,off2,none⟩) ln lc na nn nc qa qn qc sa sn sc im,.int .i64 o2] W fun e w'=>e=.returned (.bool lf2)∧Below W.heap.size W w'):=fun W=>isLife_any nm lv (some ⟨g,off,none⟩) on oc (k:Int) (some ⟨g2,off2,none⟩) ln lc na nn nc qa qn qc sa sn sc im o2 W lf2 hlf2
   have CRI:Hid (∀ W,Calls Tryz.prog 136 #[.agg #[.int .i64 e1,.int .i64 e2],.agg #[.int .i64 o1,.int .i64 o2]] W fun e w'=>e=.returned (.bool ri)∧Below W.heap.size W w'):=fun W=>rises_any e1 e2 o1 o2 W ri hri
   have HSO:Hid (oS lv (e1,e2) (o1,o2)=(lf1 && lf2 && !decide (o1=o2) && ri)):=jH (by unfold oS;rw [hlf1,hlf2,hri])
   have NO:Hid (oS lv (e1,e2) (o1,o2)=false→r=false):=jH (fun h=>by
    rw [HR.out];unfold outlB;rw [← chk_out]
    have:chkB lv (-1,0) ou=false:=by
     cases hh:chkB lv (-1,0) ou with
     | false=>rfl
     | true =>
      have h1:=(chk_iff lv ou (-1,0)).1 hh i (o1,o2) HOI.out
      rw [HPV.out,h] at h1
      cases h1
    rw [this];rfl)
   have HLF1:=jH hlf1
   have HLF2:=jH hlf2
   clear hlf1 hlf2 hri
   cases lf1 with
   | false =>
    have hno:r=false:=NO.out (by rw [HSO.out];rfl)
    go_wp2_with (first
     | (go_at_call 135;with_reducible refine (CL1.out _).mono ?_;rintro e v1 ⟨rfl,hb1⟩;have HS1:=jH (HS0.out.aft hb1);have HO1:=jH (HO0.out.below hb1);clear hb1;obtain ⟨d0,d1,d2,d3,d4,d5,d6,d7,d8⟩:=HS1.out.hd.hd;obtain ⟨o1a,o1b,-,-⟩:=at_pair HO1.out;obtain ⟨l1a,l1b,-,-⟩:=at_pair HS1.out.la))
    go_ret
    refine ⟨?_,HS1.out.bel⟩
    first|rfl|(rw [hno];rfl)
   | true =>
    cases lf2 with
    | false =>
     have hno:r=false:=NO.out (by rw [HSO.out];rfl)
     go_wp2_with (first
      | (go_at_call 135;with_reducible refine (CL1.out _).mono ?_;rintro e v1 ⟨rfl,hb1⟩;have HS1:=jH (HS0.out.aft hb1);have HO1:=jH (HO0.out.below hb1);clear hb1;obtain ⟨d0,d1,d2,d3,d4,d5,d6,d7,d8⟩:=HS1.out.hd.hd;obtain ⟨o1a,o1b,-,-⟩:=at_pair HO1.out;obtain ⟨l1a,l1b,-,-⟩:=at_pair HS1.out.la)
      | (go_at_call 135;with_reducible refine (CL2.out _).mono ?_;rintro e v2 ⟨rfl,hb2⟩;have HS2:=jH (HS1.out.aft hb2);have HO2:=jH (HO1.out.below hb2);clear hb2;obtain ⟨o2a,o2b,-,-⟩:=at_pair HO2.out;obtain ⟨l2a,l2b,-,-⟩:=at_pair HS2.out.la))
     go_ret
     refine ⟨?_,HS2.out.bel⟩
     first|rfl|(rw [hno];rfl)
    | true =>
     by_cases heq:o1=o2
     ·have q1:(o1 == o2)=true:=by simpa using heq
      have hno:r=false:=NO.out (by rw [HSO.out,decide_eq_true heq];rfl)
      clear heq
      go_wp2_with (first
       | (go_at_call 135;with_reducible refine (CL1.out _).mono ?_;rintro e v1 ⟨rfl,hb1⟩;have HS1:=jH (HS0.out.aft hb1);have HO1:=jH (HO0.out.below hb1);clear hb1;obtain ⟨d0,d1,d2,d3,d4,d5,d6,d7,d8⟩:=HS1.out.hd.hd;obtain ⟨o1a,o1b,-,-⟩:=at_pair HO1.out;obtain ⟨l1a,l1b,-,-⟩:=at_pair HS1.out.la)
       | (go_at_call 135;with_reducible refine (CL2.out _).mono ?_;rintro e v2 ⟨rfl,hb2⟩;have HS2:=jH (HS1.out.aft hb2);have HO2:=jH (HO1.out.below hb2);clear hb2;obtain ⟨o2a,o2b,-,-⟩:=at_pair HO2.out;obtain ⟨l2a,l2b,-,-⟩:=at_pair HS2.out.la))
      go_ret
      refine ⟨?_,HS2.out.bel⟩
      first|rfl|(rw [hno];rfl)
     ·have q1:(o1 == o2)=false:=by simpa using heq
      cases ri with
      | false =>
       have hno:r=false:=NO.out (by rw [HSO.out,Bool.and_false])
       go_wp2_with (first
        | (go_at_call 135;with_reducible refine (CL1.out _).mono ?_;rintro e v1 ⟨rfl,hb1⟩;have HS1:=jH (HS0.out.aft hb1);have HO1:=jH (HO0.out.below hb1);clear hb1;obtain ⟨d0,d1,d2,d3,d4,d5,d6,d7,d8⟩:=HS1.out.hd.hd;obtain ⟨o1a,o1b,-,-⟩:=at_pair HO1.out;obtain ⟨l1a,l1b,-,-⟩:=at_pair HS1.out.la)
        | (go_at_call 135;with_reducible refine (CL2.out _).mono ?_;rintro e v2 ⟨rfl,hb2⟩;have HS2:=jH (HS1.out.aft hb2);have HO2:=jH (HO1.out.below hb2);clear hb2;obtain ⟨o2a,o2b,-,-⟩:=at_pair HO2.out;obtain ⟨l2a,l2b,-,-⟩:=at_pair HS2.out.la)
        | (go_at_call 136;refine (CRI.out _).mono ?_;rintro e v3 ⟨rfl,hb3⟩;have HS3:=jH (HS2.out.aft hb3);have HO3:=jH (HO2.out.below hb3);clear hb3;obtain ⟨o3a,o3b,-,-⟩:=at_pair HO3.out;have hlo:=HO3.out.lt))
       go_ret
       refine ⟨?_,HS3.out.bel⟩
       first|rfl|(rw [hno];rfl)
      | true =>
       have HOK:Hid (oS lv (e1,e2) (o1,o2)=true):=jH (by rw [HSO.out,decide_eq_false heq];rfl)
       obtain ⟨x,hx⟩:∃ x:Nat,o1=(x:Int):=⟨o1.toNat,by have:=HLF1.out;simp at this;omega⟩
       obtain ⟨y,hy⟩:∃ y:Nat,o2=(y:Int):=⟨o2.toNat,by have:=HLF2.out;simp at this;omega⟩
       subst hx hy
       have HX:Hid (x<8):=jH (by have:=HLF1.out;have:=HLV.out;simp at *;omega)
       have HY:Hid (y<8):=jH (by have:=HLF2.out;have:=HLV.out;simp at *;omega)
       have x0:(0:Int)≤(x:Int):=by omega
       have x1:(x:Int)<8:=by have:=HX.out;omega
       have y0:(0:Int)≤(y:Int):=by omega
       have y1:(y:Int)<8:=by have:=HY.out;omega
       clear NO HSO HLF1 HLF2 heq
       go_upto_region 8 with (first
        | (go_at_call 135;with_reducible refine (CL1.out _).mono ?_;rintro e v1 ⟨rfl,hb1⟩;have HS1:=jH (HS0.out.aft hb1);have HO1:=jH (HO0.out.below hb1);clear hb1;obtain ⟨d0,d1,d2,d3,d4,d5,d6,d7,d8⟩:=HS1.out.hd.hd;obtain ⟨o1a,o1b,-,-⟩:=at_pair HO1.out;obtain ⟨l1a,l1b,-,-⟩:=at_pair HS1.out.la)
        | (go_at_call 135;with_reducible refine (CL2.out _).mono ?_;rintro e v2 ⟨rfl,hb2⟩;have HS2:=jH (HS1.out.aft hb2);have HO2:=jH (HO1.out.below hb2);clear hb2;obtain ⟨o2a,o2b,-,-⟩:=at_pair HO2.out;obtain ⟨l2a,l2b,-,-⟩:=at_pair HS2.out.la)
        | (go_at_call 136;refine (CRI.out _).mono ?_;rintro e v3 ⟨rfl,hb3⟩;have HS3:=jH (HS2.out.aft hb3);have HO3:=jH (HO2.out.below hb3);clear hb3;obtain ⟨o3a,o3b,-,-⟩:=at_pair HO3.out;have hlo:=HO3.out.lt))
       obtain ⟨mc,mf⟩:=HS3.out.mx.cell HX.out HY.out
       have hlm:=HS3.out.mx.rel.1
       clear CL1 CL2 CRI
       go_big_region
       all_goals
        have HM4:=jH (HS3.out.mx.set HX.out HY.out)
        have HBT:Hid (But (w.heap.size+1) v3 (v3.setCell ⟨w.heap.size+1,x*8+y,none⟩ (.bool true))):=jH ((But.refl _ _).set _ _)
        have HD4:=jH (HS3.out.hd.grown HBT.out (by simp))
        have HLA4:=jH (HS3.out.la.grown HBT.out (by simp))
        have HO4:=jH (HO3.out.grown HBT.out (by have:=HLB.out;simp;omega))
        have HBE4:=jH (belBut HS3.out.bel HBT.out (by omega) HS3.out.bel.size)
       all_goals
        have HS8:Hid (OU w ((v3.setCell ⟨w.heap.size+1,x*8+y,none⟩ (.bool true)).drew) nm lv (some ⟨g,off,none⟩) on oc (k:Int) (some ⟨g2,off2,none⟩) ln lc na nn nc qa qn qc sa sn sc im (mO (ou.take i++[((x:Int),(y:Int))])) (e1,e2)):=jH (OU.aft ⟨HD4.out,HM4.out,HLA4.out,HBE4.out⟩ (bR.drew))
        have HO8:Hid (At ((v3.setCell ⟨w.heap.size+1,x*8+y,none⟩ (.bool true)).drew) bo (.cells #[.int .i64 (x:Int),.int .i64 (y:Int)] 130 (0,0))):=jH HO4.out.drew
        generalize (v3.setCell ⟨w.heap.size+1,x * 8+y,none⟩ (.bool true)).drew=W8 at *
        clear mc mf hlm HM4 HBT HD4 HLA4 HO4 HBE4 HS3 HO3 HS2 HO2 HS1 HO1 HS0 HO0
        obtain ⟨z0,z1,-,-⟩:=at_pair HO8.out
        obtain ⟨y0a,y1a,y2a,y3a⟩:=at_pair HS8.out.la
        have hlz:=HO8.out.lt
        have hly:=HS8.out.la.lt
        have HF:=jH (HS8.out.last (x:Int) (y:Int))
        clear HS8 HO8
        go_wp2_with fail
        refine ⟨⟨i+1,HLT.out,rfl,fun j o hj ho=>?_,?_⟩,?_⟩
        ·rcases Nat.lt_or_ge j i with h1|h1
         ·exact HI1.out j o h1 ho
         ·obtain rfl:j=i:=by omega
          have:=HOI.out
          rw [ho] at this
          cases this
          rw [HPV.out]
          exact HOK.out
        ·rw [List.take_add_one,HOI.out]
         show OU w _ _ _ _ _ _ _ _ _ _ _ _ _ _ _ _ _ _ _ _ (mO (ou.take i++[((x:Int),(y:Int))])) ((ou[i]?).getD (-1,0))
         rw [HOI.out]
         exact HF.out
        ·show on - ((i:Int)+1).toNat<on - (i:Int).toNat
         have:=HLT.out
         omega
  ·obtain rfl:i=on:=by omega
   have lt:¬ (i:Int)<(i:Int):=by omega
   have eM:ou.take i=ou:=by rw [HOU.out.len,List.take_length]
   rw [eM] at HS
   obtain ⟨cb,hcb⟩:∃ cb,cb=((List.range 8).all (fun a=>(List.range 8).all fun b=>(List.range 8).all fun c=>!(decide (((a:Int),(b:Int))∈ou) && decide (((b:Int),(c:Int))∈ou) && !decide (a=c)) || decide (((a:Int),(c:Int))∈ou))):=⟨_,rfl⟩
   have CC:=jH (isClosed_any wr (w.heap.size+1) (mO ou) HS.out.mx.rel.2 cb (by rw [hcb];exact (closed_out ou).symm))
   have hr2:r=(cb && (cl.take (k+1)).all (imC (mO ou))):=by
    have e1:chkB lv (-1,0) ou=true:=(chk_iff lv ou (-1,0)).2 (fun j o ho=>HI1.out j o (by have:=(List.getElem?_eq_some_iff.1 ho).1;rw [HOU.out.len];exact this) ho)
    rw [HR.out]
    unfold outlB
    rw [← chk_out,e1,← hcb,Bool.true_and,Int.toNat_natCast]
    congr 1
    rw [Bool.eq_iff_iff,List.all_eq_true,List.all_eq_true]
    exact forall_congr' fun c=>forall_congr' fun hc=>by rw [imC_out (HQ8.out c hc)]
   have CI:=jH (HCI.out wr (mO ou) HS.out.bel HS.out.mx.rel)
   obtain ⟨d0,d1,d2,d3,d4,d5,d6,d7,d8⟩:=HS.out.hd.hd
   have tn:((k:Int)+1).toNat=k+1:=by omega
   obtain ⟨iv,hiv⟩:∃ iv,iv=(cl.take (k+1)).all (imC (mO ou)):=⟨_,rfl⟩
   rw [← hiv] at hr2 CI
   clear hlt hi eM hcb hiv HI1 HCI HQ8
   cases cb with
   | false =>
    have hr3:r=false:=hr2
    subst hr3
    clear hr2
    go_wp2_with (go_at_call 137;refine CC.out.mono ?_;rintro e w9 ⟨rfl,hw⟩;replace hw:=hw.symm;subst hw)
    go_ret
    exact ⟨rfl,HS.out.bel⟩
   | true =>
    have hr3:r=iv:=hr2
    clear hr2
    go_wp2_with (first
     | (go_at_call 137;refine CC.out.mono ?_;rintro e w9 ⟨rfl,hw⟩;replace hw:=hw.symm;subst hw)
     | (go_at_call 138;refine CI.out.mono ?_;rintro e w9 ⟨rfl,hb9⟩;have HB9:=jH (jB HS.out.bel hb9);clear hb9))
    go_ret
    refine ⟨?_,HB9.out⟩
    first|rfl|(rw [hr3];rfl)
end Go.Proofs.YtdlggpcakaofoaaGreat
