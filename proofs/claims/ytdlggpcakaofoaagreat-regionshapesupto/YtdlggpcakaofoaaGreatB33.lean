import Derived.Test.YtdlggpcakaofoaaGreatB32
import Derived.Test.YtdlggpcakaofoaaGreatB31
namespace Go.Proofs.YtdlggpcakaofoaaGreat
open Go.RowKit Go.Shelf
set_option linter.unusedVariables false
set_option linter.unusedSimpArgs false
set_option maxRecDepth 100000
set_option maxHeartbeats 2000000
def negs (l:List Int):Nat:=(l.filter (fun r=>decide (r<0))).length
theorem negs_snoc (l:List Int) (r:Int):negs (l++[r])=negs l+(if r<0 then 1 else 0):=by
 unfold negs
 rw [List.filter_append,List.length_append]
 by_cases h:r<0 <;> simp [h]
theorem negs_le (l:List Int):negs l≤l.length:=List.length_filter_le _ _
def outN (fr:Int) (l:List Int) (r:Int):Int:=if 0≤r then r else fr+(negs l:Nat)
def numC (fr:Int) (c:Ch):Ch:=turnC (outN fr) [] c
def cntL (lv:Int):List Ch→Int
 | []=>lv
 | c::l=>cntL (lv+(negs c.regs:Nat)) l
def numR (lv:Int):List Ch→List Ch
 | []=>[]
 | c::l=>numC lv c::numR (lv+(negs c.regs:Nat)) l
theorem cntL_snoc:∀ (l:List Ch) (lv:Int) (c:Ch),cntL lv (l++[c])=cntL lv l+(negs c.regs:Nat)
 | [],lv,c=>rfl
 | d::l,lv,c=>cntL_snoc l _ c
theorem numR_snoc:∀ (l:List Ch) (lv:Int) (c:Ch),numR lv (l++[c])=numR lv l++[numC (cntL lv l) c]
 | [],lv,c=>rfl
 | d::l,lv,c=>by simp only [List.cons_append,numR,cntL];rw [numR_snoc l]
theorem numR_len:∀ (l:List Ch) (lv:Int),(numR lv l).length=l.length
 | [],lv=>rfl
 | d::l,lv=>by simp only [numR,List.length_cons];rw [numR_len l]
theorem cntL_le:∀ (l:List Ch) (lv:Int),(∀ c∈l,c.regs.length≤60)→lv≤cntL lv l∧cntL lv l≤lv+60*l.length
 | [],lv,h=>by simp [cntL]
 | c::l,lv,h=>by
  have h1:=cntL_le l (lv+(negs c.regs:Nat)) (fun d hd=>h d (by simp [hd]))
  have h2:=h c (by simp)
  have h3:=negs_le c.regs
  simp only [cntL,List.length_cons]
  omega
def made (gs:List Grp) (p:Pnt):Int:=if p.op=4 then 1 else if p.op=7 then ((gs[p.fn.toNat]?).map (fun g=>g.lv)).getD 0 else 0
def cntP (gs:List Grp) (fr:Int):List Pnt→Int
 | []=>fr
 | p::l=>cntP gs (fr+made gs p) l
def atR (gs:List Grp) (fr:Int):List Pnt→List Int
 | []=>[]
 | p::l=>(if 0<made gs p then fr else -1)::atR gs (fr+made gs p) l
theorem cntP_snoc (gs:List Grp):∀ (l:List Pnt) (fr:Int) (p:Pnt),cntP gs fr (l++[p])=cntP gs fr l+made gs p
 | [],fr,p=>rfl
 | d::l,fr,p=>cntP_snoc gs l _ p
theorem atR_snoc (gs:List Grp):∀ (l:List Pnt) (fr:Int) (p:Pnt),atR gs fr (l++[p])=atR gs fr l++[if 0<made gs p then cntP gs fr l else -1]
 | [],fr,p=>rfl
 | d::l,fr,p=>by simp only [List.cons_append,atR,cntP];rw [atR_snoc gs l]
theorem cntP_le (gs:List Grp):∀ (l:List Pnt) (fr:Int),(∀ p∈l,0≤made gs p∧made gs p≤8)→fr≤cntP gs fr l∧cntP gs fr l≤fr+8*l.length
 | [],fr,h=>by simp [cntP]
 | p::l,fr,h=>by
  have h1:=cntP_le gs l (fr+made gs p) (fun d hd=>h d (by simp [hd]))
  have h2:=h p (by simp)
  simp only [cntP,List.length_cons]
  omega
abbrev rgO (lv np cn:Int) (vL vA:Value):Obj:=.cells #[.int .i64 lv,.int .i64 np,.int .i64 cn,vL,vA] 35 (0,0)
abbrev rgV (lv np cn:Int) (vL vA:Value):Value:=.agg #[.int .i64 lv,.int .i64 np,.int .i64 cn,vL,vA]
theorem At.rg {w:World} {b:Nat} {lv np cn:Int} {vL vA:Value} (h:At w b (rgO lv np cn vL vA)):w.cell? ⟨b,0,none⟩=some (.int .i64 lv)∧w.cell? ⟨b,1,none⟩=some (.int .i64 np)∧w.cell? ⟨b,2,none⟩=some (.int .i64 cn)∧w.cell? ⟨b,3,none⟩=some vL∧w.cell? ⟨b,4,none⟩=some vA:=by
 unfold At at h
 exact ⟨by simp [World.cell?,h],by simp [World.cell?,h],by simp [World.cell?,h],by simp [World.cell?,h],by simp [World.cell?,h]⟩
theorem At.rgF {w:World} {b:Nat} {lv np cn:Int} {vL vA:Value} (h:At w b (rgO lv np cn vL vA)) (o:Nat):w.frozen? ⟨b,o,none⟩=false:=frozen_of_row w b o _ 35 h
theorem At.rg2 {w:World} {b:Nat} {lv np cn:Int} {vL vA:Value} (h:At w b (rgO lv np cn vL vA)) (x:Int):At (w.setCell ⟨b,2,none⟩ (.int .i64 x)) b (rgO lv np x vL vA):=heap_setCell_same w b 2 _ 35 (.int .i64 x) h
theorem At.rg3 {w:World} {b:Nat} {lv np cn:Int} {vL vA:Value} (h:At w b (rgO lv np cn vL vA)) (a:Option Addr) (n cap:Nat):At (w.setCell ⟨b,3,none⟩ (.slice a n cap)) b (rgO lv np cn (.slice a n cap) vA):=heap_setCell_same w b 3 _ 35 (.slice a n cap) h
theorem At.rg4 {w:World} {b:Nat} {lv np cn:Int} {vL vA:Value} (h:At w b (rgO lv np cn vL vA)) (a:Option Addr) (n cap:Nat):At (w.setCell ⟨b,4,none⟩ (.slice a n cap)) b (rgO lv np cn vL (.slice a n cap)):=heap_setCell_same w b 4 _ 35 (.slice a n cap) h
theorem rg_ne {W:World} {b i:Nat} {lv np cn:Int} {vL vA:Value} {f:Fv} (h:At W b (rgO lv np cn vL vA)) (hA:At W i f.o):i≠b:=fun e=>by
 subst e
 unfold At at h hA
 rw [h] at hA
 simp [Fv.o] at hA
theorem next_any (W:World) (b:Nat) (lv np cn k:Int) (vL vA:Value) (h:At W b (rgO lv np cn vL vA)) (h0:0≤cn) (h1:cn≤1000000) (k0:0≤k) (k1:k≤8):Calls Tryz.prog 73 #[.int .i64 k,.pointer (some ⟨b,0,none⟩)] W fun e w'=>e=.returned (.int .i64 cn)∧w'=W.setCell ⟨b,2,none⟩ (.int .i64 (cn+k)):=by
 obtain ⟨c0,c1,c2,c3,c4⟩:=h.rg
 have f2:=h.rgF 2
 have hl:=h.lt
 have e1:IntKind.i64.wrap (cn+k)=cn+k:=by rw [IntKind.wrap_i64];all_goals omega
 have e2:IntKind.i64.wrap (cn+k - k)=cn:=by rw [IntKind.wrap_i64];all_goals omega
 clear h
 go_enter Tryz.func73,Tryz.ntmps73
 go_wp2_with fail
 go_ret
 refine ⟨?_,rfl⟩
 first|rfl|(congr 2;omega)
structure JG (b7 b8:Nat) (lv np fr:Int) (vL vA:Value) (W0:World) (l:List Int) (W:World):Prop where
 a8:At W b8 (One (fnB 73 b7) 105)
 a7:At W b7 (rgO lv np (fr+(negs l:Nat)) vL vA)
 but:But b7 W0 W
theorem JG.keep {b7 b8:Nat} {lv np fr:Int} {vL vA:Value} {W0 W W':World} {l:List Int} (h:JG b7 b8 lv np fr vL vA W0 l W) (k:Below W.heap.size W W'):JG b7 b8 lv np fr vL vA W0 l W':=⟨h.a8.below k,h.a7.below k,h.but.trans (But.below k)⟩
theorem turnG (w0 W0:World) (b7 b8:Nat) (lv np fr:Int) (vL vA:Value) (hB:Below w0.heap.size w0 W0) (h7:w0.heap.size≤b7) (h8:b8≠b7) (hl7:b7<W0.heap.size) (hl8:b8<W0.heap.size) (f0:0≤fr) (f1:fr≤100000):TurnR 74 [.pointer (some ⟨b8,0,none⟩)] (fun l _=>l.length≤60) w0 W0.heap.size (JG b7 b8 lv np fr vL vA W0) (outN fr) where
 enters:=fun args W=>by kernel_rfl
 alloc:=fun l W o h=>h.keep (belA bR)
 set:=fun l W W' i f h hA hi hb=>by
  have e8:b8≠i:=by omega
  have e7:b7≠i:=by omega
  refine ⟨h.a8.but hb e8,h.a7.but hb e7,⟨hb.os.trans h.but.os,hb.tape.trans h.but.tape,hb.output.trans h.but.output,Nat.le_trans h.but.size hb.size,fun j hj hn=>?_⟩⟩
  exact (hb.block j (Nat.lt_of_lt_of_le hj h.but.size) (fun e=>by cases e;omega)).trans (h.but.block j hj hn)
 bel:=fun l W h=>hB.grown h.but hB.size (fun k hk=>by cases hk;exact h7)
 siz:=fun l W h=>h.but.size
 call:=by
  rintro l r W hl r0 r1 hJ
  have hn:=negs_le l
  obtain ⟨cn,hcn⟩:∃ cn:Int,cn=fr+(negs l:Nat):=⟨_,rfl⟩
  have A7:=hJ.a7
  rw [← hcn] at A7
  have C:=jH (next_any W b7 lv np cn 1 vL vA A7 (by omega) (by omega) (by omega) (by omega))
  show Calls Tryz.prog 74 #[.int .i64 r,.pointer (some ⟨b8,0,none⟩)] W _
  obtain ⟨c0,f8⟩:=hJ.a8.one
  have hlt:=hJ.a8.lt
  by_cases hr:0≤r
  ·have eo:outN fr l r=r:=if_pos hr
   have FIN:Hid (JG b7 b8 lv np fr vL vA W0 (l++[r]) W∧KeepT W W∧W.heap.size≤W.heap.size):=jH ⟨⟨hJ.a8,by rw [negs_snoc,if_neg (by omega),Nat.add_zero];exact hJ.a7,hJ.but⟩,fun i f x=>x,Nat.le_refl _⟩
   rw [eo]
   clear hJ A7 C hcn hl hn eo hl7 hl8 hB f0 f1 h7 h8
   go_enter Tryz.func74,Tryz.ntmps74
   go_wp2_with fail
   go_ret
   exact ⟨rfl,FIN.out⟩
  ·have eo:outN fr l r=cn:=by rw [hcn];exact if_neg hr
   have FIN:Hid (JG b7 b8 lv np fr vL vA W0 (l++[r]) (W.setCell ⟨b7,2,none⟩ (.int .i64 (cn+1)))∧KeepT W (W.setCell ⟨b7,2,none⟩ (.int .i64 (cn+1)))∧W.heap.size≤(W.setCell ⟨b7,2,none⟩ (.int .i64 (cn+1))).heap.size):=jH ⟨⟨hJ.a8.set (by simpa using h8) _,by
    rw [negs_snoc,if_pos (by omega),show fr+((negs l+1:Nat):Int)=cn+1 by rw [hcn];omega]
    exact A7.rg2 (cn+1),hJ.but.set 2 _⟩,fun i f x=>x.set (by simpa using rg_ne A7 x) _,by simp⟩
   rw [eo]
   clear hJ A7 hcn hl hn eo hl7 hl8 hB f0 f1 h7 h8
   go_enter Tryz.func74,Tryz.ntmps74
   go_wp2_with (go_at_call 73;refine C.out.mono ?_;rintro e w1 ⟨rfl,rfl⟩)
   go_ret
   exact ⟨rfl,FIN.out⟩
theorem okR_len:∀ (c:Ch) (l:List Int),l.length+c.regs.length≤61→okR (fun l _=>l.length≤60) l c
 | .leaf _ _,_,_=>trivial
 | .box c,l,h=>okR_len c l h
 | .ref _ r c,l,h=>⟨by simp only [Ch.regs,List.length_cons] at h;omega,okR_len c _ (by simp only [Ch.regs,List.length_cons,List.length_append,List.length_nil] at h ⊢;omega)⟩
theorem madeAt_any (a ua:Option Addr) (n cap un ucap:Nat) (mn:Int) (op:Nat) (tl:Int) (ta:Option Addr) (tn tc ak:Nat) (an al:Int) (aa:Option Addr) (am ac bk:Nat) (bn bl:Int) (ba:Option Addr) (bm bc:Nat) (ra:Option Addr) (rn rc:Nat) (sg:ByteArray) (fl:Int) (fa:Option Addr) (fm fc:Nat) (mu:Bool) (fn st nx el ps:Int) (w:World) (r:Int) (hun:un≤32)
  (h4:op=4→r=1) (h7:op=7→∃ (j ug uo:Nat),fn=(j:Int)∧j<un∧ua=some ⟨ug,uo,none⟩∧ug<w.heap.size∧w.cell? ⟨ug,uo+j*7+1,none⟩=some (.int .i64 r)) (h0:op≠4→op≠7→r=0) :
  Calls Tryz.prog 75 #[uV a n cap ua un ucap mn,pV op tl ta tn tc ak an al aa am ac bk bn bl ba bm bc ra rn rc sg fl fa fm fc mu fn st nx el ps] w fun e w'=>e=.returned (.int .i64 r)∧Below w.heap.size w w':=by
 have A1:Hid (At ((w.alloc (uO a n cap ua un ucap mn)).alloc (pO op tl ta tn tc ak an al aa am ac bk bn bl ba bm bc ra rn rc sg fl fa fm fc mu fn st nx el ps)) w.heap.size (uO a n cap ua un ucap mn)):=jH ((At.new _ _).alloc _)
 have A2:Hid (At ((w.alloc (uO a n cap ua un ucap mn)).alloc (pO op tl ta tn tc ak an al aa am ac bk bn bl ba bm bc ra rn rc sg fl fa fm fc mu fn st nx el ps)) (w.heap.size+1) (pO op tl ta tn tc ak an al aa am ac bk bn bl ba bm bc ra rn rc sg fl fa fm fc mu fn st nx el ps)):=jH (at_snd _ _ _)
 have HB:Hid (Below w.heap.size w ((w.alloc (uO a n cap ua un ucap mn)).alloc (pO op tl ta tn tc ak an al aa am ac bk bn bl ba bm bc ra rn rc sg fl fa fm fc mu fn st nx el ps))):=jH (belA (belA bR))
 obtain ⟨V,hV⟩:∃ V,V=((w.alloc (uO a n cap ua un ucap mn)).alloc (pO op tl ta tn tc ak an al aa am ac bk bn bl ba bm bc ra rn rc sg fl fa fm fc mu fn st nx el ps)):=⟨_,rfl⟩
 rw [← hV] at A1 A2 HB
 have c0:=A2.out.pt.1
 have c16:V.cell? ⟨w.heap.size+1,16,none⟩=some (.int .i64 fn):=by
  have:=A2.out
  unfold At at this
  simp [World.cell?,this]
 obtain ⟨u0,u1,u2⟩:=A1.out.un
 by_cases e4:op=4
 ·have er:=h4 e4
  have o1:((op:Int) == 4)=true:=by rw [e4];rfl
  subst er
  clear h4 h7 h0 e4
  go_enter Tryz.func75,Tryz.ntmps75
  go_upto_region 1 with fail
  rw [← hV]
  clear hV
  go_wp2_with fail
  go_ret
  exact ⟨rfl,HB.out⟩
 ·have o1:((op:Int) == 4)=false:=by simp;omega
  by_cases e7:op=7
  ·obtain ⟨j,ug,uo,ef,hj,eu,hug,hc⟩:=h7 e7
   have o2:((op:Int) == 7)=true:=by rw [e7];rfl
   subst ef eu
   have hcV:V.cell? ⟨ug,uo+j*7+1,none⟩=some (.int .i64 r):=(HB.out.cell (p:=⟨ug,uo+j*7+1,none⟩) hug).trans hc
   have k0:(0:Int)≤(j:Int):=by omega
   have k1:(j:Int)<(un:Int):=by omega
   clear h4 h7 h0 e4 e7 hc
   go_enter Tryz.func75,Tryz.ntmps75
   go_upto_region 1 with fail
   rw [← hV]
   clear hV
   go_wp2_with fail
   go_ret
   exact ⟨rfl,HB.out⟩
  ·have er:=h0 e4 e7
   have o2:((op:Int) == 7)=false:=by simp;omega
   subst er
   clear h4 h7 h0 e4 e7
   go_enter Tryz.func75,Tryz.ntmps75
   go_upto_region 1 with fail
   rw [← hV]
   clear hV
   go_wp2_with fail
   go_ret
   exact ⟨rfl,HB.out⟩
structure FRow (W:World) (B:Nat) (v:Value) (cs:List Ch) (fl:List Fv) (lo hi:Nat→Nat):Prop where
 len:fl.length=cs.length
 row:W.ownsRow B 46 5 v cs.length (tCells fl)
 own:∀ i c f,cs[i]?=some c→fl[i]?=some f→OwnL W (lo i) (hi i) f c
 rng:∀ i,i<cs.length→B≤lo i∧lo i≤hi i∧hi i≤W.heap.size∧∀ b,v.ownBlock=some b→b<lo i∨hi i≤b
 ord:∀ i j,i<j→j<cs.length→hi i≤lo j
theorem FRow.nil (W:World) (B:Nat) (lo hi:Nat→Nat):FRow W B (.slice none 0 0) [] [] lo hi:=⟨rfl,World.ownsRow_nil _ _ _ _,fun i c f h=>by simp at h,fun i h=>by simp at h,fun i j _ h=>by simp at h⟩
theorem FRow.bel {W W':World} {B:Nat} {v:Value} {cs:List Ch} {fl:List Fv} {lo hi:Nat→Nat} (h:FRow W B v cs fl lo hi) (k:Below W.heap.size W W'):FRow W' B v cs fl lo hi :=
 ⟨h.len,h.row.kept (row:=none) ⟨k.os,k.tape,k.output,k.size,fun i hi _=>k.block i hi⟩ (by cases e:v.ownBlock <;> simp),fun i c f h1 h2=>(h.own i c f h1 h2).bel k,fun i hi=>⟨(h.rng i hi).1,(h.rng i hi).2.1,Nat.le_trans (h.rng i hi).2.2.1 k.size,(h.rng i hi).2.2.2⟩,h.ord⟩
theorem FRow.at {W:World} {B n:Nat} {v:Value} {cs:List Ch} {fl:List Fv} {lo hi:Nat→Nat} (h:FRow W B v cs fl lo hi) {i:Nat} (hl:i<cs.length):∃ g cap c f,v=.slice (some ⟨g,0,none⟩) cs.length cap∧g<W.heap.size∧B≤g∧cs[i]?=some c∧fl[i]?=some f∧C5 W g (i*5) f∧OwnL W (lo i) (hi i) f c:=by
 obtain ⟨g,cap,rfl⟩:=own_is h.row (by omega)
 obtain ⟨c,hc⟩:∃ c,cs[i]?=some c:=⟨_,List.getElem?_eq_getElem hl⟩
 obtain ⟨f,hf⟩:∃ f,fl[i]?=some f:=⟨_,List.getElem?_eq_getElem (by rw [h.len];exact hl)⟩
 have hg:=h.row.lt g rfl
 have key:∀ k,k<5→W.cell? ⟨g,i*5+k,none⟩=(t5 f)[k]?:=fun k hk=>by
  rw [h.row.cellAt (i*5+k) (by omega)]
  exact tCells_at fl i f hf k hk
 exact ⟨g,cap,c,f,rfl,hg.2,hg.1,hc,hf,⟨hg.2,key 0 (by omega),key 1 (by omega),key 2 (by omega),key 3 (by omega),key 4 (by omega)⟩,h.own i c f hc hf⟩
theorem FRow.grow {W W':World} {B:Nat} {v:Value} {cs:List Ch} {fl:List Fv} {lo hi:Nat→Nat} {r:Option Nat} (h:FRow W B v cs fl lo hi) (k:W.grownBy W' r) (hr:∀ b,r=some b→b<B):FRow W' B v cs fl lo hi :=
 ⟨h.len,own_grow h.row k (fun g hg e=>by have:=own_lo h.row g hg;have:=hr g e.symm;omega),fun i c f h1 h2=>(h.own i c f h1 h2).keep fun g o hg1 hg2 hA=>hA.grown k (fun e=>by
  have hl:i<cs.length:=(List.getElem?_eq_some_iff.1 h1).1
  have:=(h.rng i hl).1
  have:=hr g e.symm
  omega),fun i hi=>⟨(h.rng i hi).1,(h.rng i hi).2.1,Nat.le_trans (h.rng i hi).2.2.1 k.size,(h.rng i hi).2.2.2⟩,h.ord⟩
theorem FRow.snoc {w1 w2:World} {B:Nat} {v v':Value} {cs:List Ch} {fl:List Fv} {lo hi:Nat→Nat} (h:FRow w1 B v cs fl lo hi) {l1 h1:Nat} {c:Ch} {f:Fv} (ho:OwnL w1 l1 h1 f c) (hBl:B≤l1) (hlh:l1≤h1) (hhs:h1≤w1.heap.size) (hord:∀ i,i<cs.length→hi i≤l1) (hvl:∀ b,v.ownBlock=some b→b<l1∨h1≤b)
  (hr:w2.ownsRow B 46 5 v' (cs.length+1) (tCells fl++t5 f)) (hg:w1.grownBy w2 v.ownBlock)
  (hw:∀ b,v'.ownBlock=some b→v.ownBlock=some b∨w1.heap.size≤b):FRow w2 B v' (cs++[c]) (fl++[f]) (upd lo cs.length l1) (upd hi cs.length h1):=by
 have s2:=hg.size
 refine ⟨by simp [h.len],by rw [tCells_snoc];simpa using hr,fun i c' f' h1' h2=>?_,fun i hi'=>?_,fun i j hij hj=>?_⟩
 ·by_cases e:i=cs.length
  ·subst e
   rw [upd_same,upd_same]
   rw [List.getElem?_append_right (Nat.le_refl _),Nat.sub_self] at h1'
   rw [List.getElem?_append_right (by rw [h.len];exact Nat.le_refl _),h.len,Nat.sub_self] at h2
   simp at h1' h2
   subst h1' h2
   refine ho.keep fun g o hg1 hg2 hA=>hA.grown hg (fun e=>?_)
   have:=hvl g e.symm
   omega
  ·have hl:i<cs.length:=by
    have:=(List.getElem?_eq_some_iff.1 h1').1
    rw [List.length_append] at this
    simp at this
    omega
   rw [upd_other _ _ e,upd_other _ _ e]
   rw [List.getElem?_append_left hl] at h1'
   rw [List.getElem?_append_left (by rw [h.len];exact hl)] at h2
   have hrn:=(h.rng i hl).2.2.2
   refine (h.own i c' f' h1' h2).keep fun g o hg1 hg2 hA=>hA.grown hg (fun e=>?_)
   have:=hrn g e.symm
   omega
 ·by_cases e:i=cs.length
  ·subst e
   rw [upd_same,upd_same]
   refine ⟨hBl,hlh,by omega,fun b hb=>?_⟩
   rcases hw b hb with h'|h'
   ·exact hvl b h'
   ·omega
  ·have hl:i<cs.length:=by
    rw [List.length_append] at hi'
    simp at hi'
    omega
   rw [upd_other _ _ e,upd_other _ _ e]
   obtain ⟨r1,r2,r3,r4⟩:=h.rng i hl
   refine ⟨r1,r2,by omega,fun b hb=>?_⟩
   rcases hw b hb with h'|h'
   ·exact r4 b h'
   ·omega
 ·rw [List.length_append] at hj
  simp at hj
  by_cases e:j=cs.length
  ·subst e
   rw [upd_same,upd_other _ _ (by omega)]
   exact hord i (by omega)
  ·rw [upd_other _ _ (by omega),upd_other _ _ (by omega)]
   exact h.ord i j hij (by omega)
theorem set5_list (l:List Value) (k:Nat) (hk:l.length=k) (a b c d e a' b' c' d' e':Value):(((((l++[a,b,c,d,e]).set k a').set (k+1) b').set (k+2) c').set (k+3) d').set (k+4) e'=l++[a',b',c',d',e']:=by
 subst hk
 simp [List.set_append_right]
theorem row_store {w:World} {B g n cap:Nat} {fl:List Fv} {z f:Fv} (h:w.ownsRow B 46 5 (.slice (some ⟨g,0,none⟩) (n+1) cap) (n+1) (tCells fl++t5 z)) (hn:fl.length=n) :
  (w.setCells g (n*5) (t5 f)).ownsRow B 46 5 (.slice (some ⟨g,0,none⟩) (n+1) cap) (n+1) (tCells fl++t5 f)∧w.grownBy (w.setCells g (n*5) (t5 f)) (some g):=by
 have hl:(tCells fl).length=n*5:=by rw [tCells_len,hn]
 unfold t5
 simp only [World.setCells]
 obtain ⟨r0,g0⟩:=h.stored (n*5) (.int .u8 (f.k:Int))
 obtain ⟨r1,g1⟩:=r0.stored (n*5+1) (.bool f.m)
 obtain ⟨r2,g2⟩:=r1.stored (n*5+1+1) (.int .i64 f.r)
 obtain ⟨r3,g3⟩:=r2.stored (n*5+1+1+1) (.int .i64 f.s)
 obtain ⟨r4,g4⟩:=r3.stored (n*5+1+1+1+1) (.slice f.a f.n f.cap)
 refine ⟨?_,But.trans (But.trans (But.trans (But.trans g0 g1) g2) g3) g4⟩
 have e:=set5_list (tCells fl) (n*5) hl (.int .u8 (z.k:Int)) (.bool z.m) (.int .i64 z.r) (.int .i64 z.s) (.slice z.a z.n z.cap) (.int .u8 (f.k:Int)) (.bool f.m) (.int .i64 f.r) (.int .i64 f.s) (.slice f.a f.n f.cap)
 unfold t5 at r4
 rw [← e]
 exact r4
theorem setCell_comm (w:World) (a b:Addr) (u v:Value) (h:a.block≠b.block):(w.setCell a u).setCell b v=(w.setCell b v).setCell a u:=by
 unfold World.setCell
 simp only
 congr 1
 apply Array.ext_getElem?
 intro i
 simp only [Array.getElem?_modify]
 by_cases h1:a.block=i
 ·by_cases h2:b.block=i
  ·exact absurd (h1.trans h2.symm) h
  ·simp [h1,h2]
 ·by_cases h2:b.block=i <;> simp [h1,h2]
theorem setCells_comm (a:Addr) (u:Value) (b:Nat) (h:a.block≠b):∀ (l:List Value) (o:Nat) (w:World),(w.setCell a u).setCells b o l=(w.setCells b o l).setCell a u
 | [],o,w=>rfl
 | v::l,o,w=>by
  simp only [World.setCells]
  rw [setCell_comm w a ⟨b,o,none⟩ u v h,setCells_comm a u b h l]
theorem append_where {P:Program} (w:World) (base:Nat) (t ty e:TypeId) (i:TypeInfo) (z:Value) (size bytes:Nat) (ht:P.underlying t=some (.slice e)) (hi:P.info? e=some i) (hz:i.zero=some z)
  (hsize:i.size=size) (hby:i.bytes=bytes) (v:Value) (n:Nat) (xs:List Value) (hown:w.ownsRow base e size v n xs)
  (a:Addr) (m c:Nat) (news:List Value) (hm:0<m) (hl:news.length=m*size) (hnews:∀ j u,news[j]?=some u→w.cell? (a.add j)=some u) (h1:∀ u∈news,u.oneCell'=true)
  (h63:n+m≤maxLen) (hbytes:(n+m)*bytes≤140737488355328) {v':Value} {w':World} (hrun:(Builtin.append_ #[t,t] ty #[v,.slice (some a) m c]).run P w=.ok v' w') :
  ∀ b,v'.ownBlock=some b→v.ownBlock=some b∨b=w.heap.size:=by
 subst hsize
 subst hby
 have hsmall:n+m≤9223372036854775807:=by simp only [maxLen] at h63;omega
 rcases hown.2 with ⟨rfl,rfl⟩|⟨g,cap,cur,rfl,hbg,hg,hnc,hcm,hcs,htake⟩
 ·have hr:=run_append_nil (P:=P) w t ty e i z ht hi hz a m c news hl hnews (by omega) (by omega) (by have hb:=hbytes;simp only [Nat.zero_add] at hb;omega)
  rw [hr] at hrun
  cases hrun
  intro b e
  right
  simpa [Value.ownBlock] using e.symm
 ·by_cases hroom:n+m≤cap
  ·have hfit:n*i.size+news.length≤cur.size:=by rw [hl,hcs,← Nat.add_mul];exact Nat.mul_le_mul_right _ hroom
   have hr:=run_append_room (P:=P) w t ty e i ht hi g n cap cur hg a m c news hl hnews h1 hroom hfit
   rw [hr] at hrun
   cases hrun
   intro b e
   left
   exact e
  ·have hr:=run_append_grow (P:=P) w t ty e i z ht hi hz ⟨g,0,none⟩ n cap xs hown.1 (hown.cells (g:=g) rfl) a m c news hl hnews (by omega) (by omega) (growslice_fits (by omega) hbytes)
   rw [hr] at hrun
   cases hrun
   intro b e
   right
   simpa [Value.ownBlock] using e.symm
theorem t5_ones (f:Fv):∀ u∈t5 f,u.oneCell'=true:=fun u hu=>by
 simp [t5] at hu
 rcases hu with rfl|rfl|rfl|rfl|rfl <;> rfl
theorem t5_new {W:World} {b:Nat} {f:Fv} (h:At W b f.o):∀ j u,(t5 f)[j]?=some u→W.cell? ((⟨b,0,none⟩:Addr).add j)=some u:=fun j u hu=>by
 unfold At at h
 match j,hu with
 | 0,hu=>simp [t5] at hu;subst hu;simp [Addr.add,World.cell?,h]
 | 1,hu=>simp [t5] at hu;subst hu;simp [Addr.add,World.cell?,h]
 | 2,hu=>simp [t5] at hu;subst hu;simp [Addr.add,World.cell?,h]
 | 3,hu=>simp [t5] at hu;subst hu;simp [Addr.add,World.cell?,h]
 | 4,hu=>simp [t5] at hu;subst hu;simp [Addr.add,World.cell?,h]
 | j+5,hu=>simp [t5] at hu
theorem size46:(Tryz.prog.info? 46).map (·.size)=some 5:=by kernel_rfl
theorem app1 {W:World} {B i:Nat} {aL:Option Addr} {cL bz:Nat} {cs:List Ch} {fl:List Fv} {lo hi:Nat→Nat} (hF:FRow W B (.slice aL i cL) cs fl lo hi) (hz:At W bz zT.o) (hn:cs.length=i) (hi:i≤512) (hB:B≤W.heap.size) :
  ∃ g2 c2 w',(Builtin.append_ #[32,32] 32 #[.slice aL i cL,.slice (some ⟨bz,0,none⟩) 1 1]).run Tryz.prog W=.ok (.slice (some ⟨g2,0,none⟩) (i+1) c2) w'∧w'.ownsRow B 46 5 (.slice (some ⟨g2,0,none⟩) (i+1) c2) (i+1) (tCells fl++t5 zT)∧W.grownBy w' (Value.slice aL i cL).ownBlock∧((Value.slice aL i cL).ownBlock=some g2∨g2=W.heap.size):=by
 subst hn
 obtain ⟨i0,hi0,hz0,hz1,hz2⟩:=info_parts Tryz.info46
 have hrow:=hF.row
 obtain ⟨v',w',hr,h2,h3,h4⟩:=run_append_own (P:=Tryz.prog) W B 32 32 46 i0 _ 5 48 Tryz.underlying32 hi0 hz0 hz1 hz2 rfl (by decide) _ cs.length _ hrow ⟨bz,0,none⟩ 1 1 (t5 zT) rfl (t5_new hz) (t5_ones zT) (by unfold maxLen;omega) (by omega) hB
 have h5:=append_where (P:=Tryz.prog) W B 32 32 46 i0 _ 5 48 Tryz.underlying32 hi0 hz0 hz1 hz2 _ cs.length _ hrow ⟨bz,0,none⟩ 1 1 (t5 zT) (by decide) rfl (t5_new hz) (t5_ones zT) (by unfold maxLen;omega) (by omega) hr
 obtain ⟨g2,c2,rfl⟩:=own_is h2 (by omega)
 exact ⟨g2,c2,w',hr,h2,h3,h5 g2 rfl⟩
theorem wp_append1 {w w':World} {o:Oper} {a:Act} {K:Act→World→Prop} {Q:Exit→Act→World→Prop} {s x:Nat} {v u v':Value} (ho:o.op=Op.call { callee:=Callee.builtin Builtin.append,args:=#[.tmp s,.tmp x],argTypes:=#[32,32] }) (hs:a.eval (.tmp s)=v) (hx:a.eval (.tmp x)=u) (hr:(Builtin.append_ #[32,32] o.type #[v,u]).run Tryz.prog w=.ok v' w')
  (h:K (a.put o.dst v') w'):Oper.wp Tryz.prog o a w K Q:=by
 unfold Oper.wp
 simp [execOp,ho,resolve,invoke,builtin,hs,hx,hr,Result.andThen]
 exact h
end Go.Proofs.YtdlggpcakaofoaaGreat
