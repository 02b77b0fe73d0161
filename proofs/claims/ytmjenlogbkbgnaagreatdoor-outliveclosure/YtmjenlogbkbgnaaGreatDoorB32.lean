import Derived.Test.YtmjenlogbkbgnaaGreatDoorB31
namespace Go.Proofs.YtmjenlogbkbgnaaGreatDoor
open Go.RowKit Go.Shelf
set_option linter.unusedVariables false
set_option linter.unusedSimpArgs false
set_option maxRecDepth 100000
set_option maxHeartbeats 4000000
theorem results_u1 {fn:Func} {i:Nat} (h:fn.results=#[.cell i 25]) {tmps:Array Value} {W:World} {b4:Nat} {a ua:Option Addr} {n cap un ucap:Nat} {mn:Int} (ht:tmps.getD i undef=.pointer (some ⟨b4,0,none⟩)) (hC:At W b4 (uO a n cap ua un ucap mn)):(results fn tmps).run Tryz.prog W=.ok (uV a n cap ua un ucap mn) W:=by
 obtain ⟨e0,e1,e2⟩:=hC.un
 have ht2:tmps[i]?.getD undef=.pointer (some ⟨b4,0,none⟩):=by rw [← ht];simp
 simp only [results,h]
 simp [go_sem,ht2,e0,e1,e2]
theorem ne4 {v b0 bu bl br bp:Nat} (h:b0<v) (h1:v≤bu) (h2:v≤bl) (h3:v≤br) (h4:v≤bp):b0≠bu∧b0≠bl∧b0≠br∧b0≠bp:=by omega
abbrev S3 (w:World) (b bu:Nat):World:=((w.setCell ⟨b,0,none⟩ (.slice none 0 0)).setCell ⟨b,1,none⟩ (.slice (some ⟨bu,0,none⟩) 1 1)).setCell ⟨b,2,none⟩ (.int .i64 0)
theorem hand_fin {w V W:World} {b0 bu bl br bn bp bq:Nat} (hH:But b0 V W) (hl:b0<V.heap.size) (x0:At W b0 (uO none 0 0 none 0 0 0)) (xu:At W bu (.cells #[.string ByteArray.empty,.int .i64 0,.slice none 0 0,.int .i64 0,.slice (some ⟨bl,0,none⟩) 3 3,.slice (some ⟨bn,0,none⟩) 3 3,.slice (some ⟨bp,0,none⟩) 4 4] 73)) (xl:At W bl (.cells #[.int .u8 1,.bool false,.int .i64 0,.int .i64 0,.slice none 0 0,.int .u8 1,.bool false,.int .i64 0,.int .i64 0,.slice none 0 0,.int .u8 4,.bool true,.int .i64 (-1),.int .i64 0,.slice (some ⟨br,0,none⟩) 1 1] 43)) (xr:At W br (Fv.o ⟨1,false,0,0,none,0,0⟩)) (xp:At W bp (.cells (pC hv0++pC hv1++pC (hv2 bq)++pC hv3).toArray 118)) (xq:At W bq (.cells #[.int .i64 (-1)] 106)) (nu:bu≠b0) (nl:bl≠b0) (nr:br≠b0) (np:bp≠b0) (nq:bq≠b0) :
  But b0 V (S3 W b0 bu)∧At (S3 W b0 bu) b0 (uO none 0 0 (some ⟨bu,0,none⟩) 1 1 0)∧HandAt (S3 W b0 bu) bu bl br bn bp bq:=by
 have hb:But b0 W (S3 W b0 bu):=(((But.refl _ _).set 0 _).set 1 _).set 2 _
 have hV:=hH.trans hb
 refine ⟨hV,?_,⟨xu.but hb nu,xl.but hb nl,xr.but hb nr,xp.but hb np,xq.but hb nq⟩⟩
 have h1:At (W.setCell ⟨b0,0,none⟩ (.slice none 0 0)) b0 (uO none 0 0 none 0 0 0):=heap_setCell_same W b0 0 _ 25 (.slice none 0 0) x0
 have h2:At ((W.setCell ⟨b0,0,none⟩ (.slice none 0 0)).setCell ⟨b0,1,none⟩ (.slice (some ⟨bu,0,none⟩) 1 1)) b0 (uO none 0 0 (some ⟨bu,0,none⟩) 1 1 0):=heap_setCell_same _ b0 1 _ 25 (.slice (some ⟨bu,0,none⟩) 1 1) h1
 exact heap_setCell_same _ b0 2 _ 25 (.int .i64 0) h2
abbrev handOps:Array Oper:=#[{ dst:=some 4,op:=Op.call { callee:=Callee.value (Operand.func 53),args:=#[],argTypes:=#[] },type:=43,pos := "law.go:22",after:=#[],guard:=none },{ dst:=some 5,op:=Op.call { callee:=Callee.value (Operand.func 53),args:=#[],argTypes:=#[] },type:=43,pos := "law.go:22",after:=#[{ on:=0,ground:=Ground.chain }],guard:=none },{ dst:=some 6,op:=Op.call { callee:=Callee.value (Operand.func 54),args:=#[Operand.const (Value.bool true)],argTypes:=#[4] },type:=43,pos := "law.go:22",after:=#[{ on:=1,ground:=Ground.chain }],guard:=none },{ dst:=some 7,op:=Op.buildSlice 41 3 #[(0,Operand.tmp 4),(1,Operand.tmp 5),(2,Operand.tmp 6)],type:=41,pos := "law.go:22",after:=#[{ on:=0,ground:=Ground.data },{ on:=1,ground:=Ground.data },{ on:=2,ground:=Ground.data }],guard:=none },{ dst:=some 8,op:=Op.makeSlice 70 (Operand.const (Value.int IntKind.i64 3)) (Operand.const (Value.int IntKind.i64 3)),type:=70,pos := "law.go:22",after:=#[],guard:=none },{ dst:=some 9,op:=Op.build 109 #[(0,Operand.const (Value.int IntKind.i64 2))],type:=109,pos := "law.go:22",after:=#[],guard:=none },{ dst:=some 10,op:=Op.build 109 #[(0,Operand.const (Value.int IntKind.i64 1))],type:=109,pos := "law.go:22",after:=#[],guard:=none },{ dst:=some 11,op:=Op.build 118 #[(0,Operand.const (Value.int IntKind.u8 4)),(1,Operand.tmp 9),(6,Operand.tmp 10),(7,Operand.const (Value.bool true)),(10,Operand.const (Value.int IntKind.i64 1))],type:=118,pos := "law.go:22",after:=#[{ on:=5,ground:=Ground.data },{ on:=6,ground:=Ground.data }],guard:=none },{ dst:=some 12,op:=Op.build 109 #[(0,Operand.const (Value.int IntKind.i64 1))],type:=109,pos := "law.go:22",after:=#[],guard:=none },{ dst:=some 13,op:=Op.call { callee:=Callee.value (Operand.func 55),args:=#[Operand.const (Value.int IntKind.i64 2)],argTypes:=#[2] },type:=115,pos := "law.go:22",after:=#[{ on:=2,ground:=Ground.chain }],guard:=none },{ dst:=some 14,op:=Op.build 118 #[(0,Operand.const (Value.int IntKind.u8 1)),(1,Operand.tmp 12),(2,Operand.tmp 13),(10,Operand.const (Value.int IntKind.i64 2))],type:=118,pos := "law.go:22",after:=#[{ on:=8,ground:=Ground.data },{ on:=9,ground:=Ground.data }],guard:=none },{ dst:=some 15,op:=Op.load 109 (Operand.tmp 1),type:=109,pos := "law.go:22",after:=#[],guard:=none },{ dst:=some 16,op:=Op.call { callee:=Callee.value (Operand.func 55),args:=#[Operand.const (Value.int IntKind.i64 3)],argTypes:=#[2] },type:=115,pos := "law.go:22",after:=#[{ on:=9,ground:=Ground.chain }],guard:=none },{ dst:=some 17,op:=Op.build 118 #[(0,Operand.const (Value.int IntKind.u8 1)),(1,Operand.tmp 15),(2,Operand.tmp 16),(10,Operand.const (Value.int IntKind.i64 3))],type:=118,pos := "law.go:22",after:=#[{ on:=11,ground:=Ground.data },{ on:=12,ground:=Ground.data }],guard:=none },{ dst:=some 18,op:=Op.build 118 #[(0,Operand.const (Value.int IntKind.u8 14))],type:=118,pos := "law.go:22",after:=#[],guard:=none },{ dst:=some 19,op:=Op.buildSlice 71 4 #[(0,Operand.tmp 11),(1,Operand.tmp 14),(2,Operand.tmp 17),(3,Operand.tmp 18)],type:=71,pos := "law.go:22",after:=#[{ on:=7,ground:=Ground.data },{ on:=10,ground:=Ground.data },{ on:=13,ground:=Ground.data },{ on:=14,ground:=Ground.data }],guard:=none },{ dst:=some 20,op:=Op.build 73 #[(4,Operand.tmp 7),(5,Operand.tmp 8),(6,Operand.tmp 19)],type:=73,pos := "law.go:22",after:=#[{ on:=3,ground:=Ground.data },{ on:=4,ground:=Ground.data },{ on:=15,ground:=Ground.data }],guard:=none },{ dst:=some 21,op:=Op.buildSlice 23 1 #[(0,Operand.tmp 20)],type:=23,pos := "law.go:22",after:=#[{ on:=16,ground:=Ground.data }],guard:=none },{ dst:=some 22,op:=Op.build 25 #[(1,Operand.tmp 21)],type:=25,pos := "law.go:22",after:=#[{ on:=17,ground:=Ground.data }],guard:=none },{ dst:=none,op:=Op.store 25 (Operand.tmp 0) (Operand.tmp 22),type:=0,pos := "law.go:22",after:=#[{ on:=18,ground:=Ground.data },{ on:=12,ground:=Ground.chain },{ on:=0,ground:=Ground.phase },{ on:=1,ground:=Ground.phase },{ on:=2,ground:=Ground.phase },{ on:=3,ground:=Ground.phase },{ on:=4,ground:=Ground.phase },{ on:=5,ground:=Ground.phase },{ on:=6,ground:=Ground.phase },{ on:=7,ground:=Ground.phase },{ on:=8,ground:=Ground.phase },{ on:=9,ground:=Ground.phase },{ on:=10,ground:=Ground.phase },{ on:=11,ground:=Ground.phase },{ on:=12,ground:=Ground.phase },{ on:=13,ground:=Ground.phase },{ on:=14,ground:=Ground.phase },{ on:=15,ground:=Ground.phase },{ on:=16,ground:=Ground.phase },{ on:=17,ground:=Ground.phase },{ on:=18,ground:=Ground.phase }],guard:=none }]
structure HC (V W:World) (b0 b1 bq:Nat):Prop where
 hS:But b0 V W
 x0:At W b0 (uO none 0 0 none 0 0 0)
 xq:At W bq (.cells #[.int .i64 (-1)] 106)
 h1:At V b1 (plO 2 (some ⟨bq,0,none⟩) 1 1)
 n10:b1≠b0
 nq0:bq≠b0
 hl:b0<V.heap.size
theorem HC.bel {V W W':World} {b0 b1 bq:Nat} (h:HC V W b0 b1 bq) (k:Below W.heap.size W W'):HC V W' b0 b1 bq:=⟨h.hS.trans (But.below k),h.x0.below k,h.xq.below k,h.h1,h.n10,h.nq0,h.hl⟩
def HPo (Q:Exit→Act→World→Prop) (V:World) (b0 b1 bq:Nat):Prop:=∀ (bu bl br bn bp:Nat) (W:World),But b0 V W→At W b0 (uO none 0 0 (some ⟨bu,0,none⟩) 1 1 0)→HandAt W bu bl br bn bp bq→Q .normal ⟨#[.pointer (some ⟨b0,0,none⟩),.pointer (some ⟨b1,0,none⟩),.slice (some ⟨bq,0,none⟩) 1 1,plV 2 (some ⟨bq,0,none⟩) 1 1,tyV 1 false 0 0 none 0 0,tyV 1 false 0 0 none 0 0,tyV 4 true (-1) 0 (some ⟨br,0,none⟩) 1 1,.slice (some ⟨bl,0,none⟩) 3 3,.slice (some ⟨bn,0,none⟩) 3 3,plV 2 none 0 0,plV 1 none 0 0,.agg (pC hv0).toArray,plV 1 none 0 0,.agg #[.int .u8 1,.int .i64 2,.int .i64 0,.slice none 0 0],.agg (pC hv1).toArray,plV 2 (some ⟨bq,0,none⟩) 1 1,.agg #[.int .u8 1,.int .i64 3,.int .i64 0,.slice none 0 0],.agg (pC (hv2 bq)).toArray,.agg (pC hv3).toArray,.slice (some ⟨bp,0,none⟩) 4 4,.agg #[.string ByteArray.empty,.int .i64 0,.slice none 0 0,.int .i64 0,.slice (some ⟨bl,0,none⟩) 3 3,.slice (some ⟨bn,0,none⟩) 3 3,.slice (some ⟨bp,0,none⟩) 4 4],.slice (some ⟨bu,0,none⟩) 1 1,uV none 0 0 (some ⟨bu,0,none⟩) 1 1 0],[]⟩ W
theorem hs_0_1_2_3_4_9_12_15_17_ {Q:Exit→Act→World→Prop} (hq:CalmP Q) {V W:World} {b0 b1 bq:Nat} (hp:HPo Q V b0 b1 bq) (hc:HC V W b0 b1 bq) {br:Nat} (n_br:V.heap.size≤br) (xr:At W br (Fv.o ⟨1,false,0,0,none,0,0⟩)) {bl:Nat} (n_bl:V.heap.size≤bl) (xl:At W bl (.cells #[.int .u8 1,.bool false,.int .i64 0,.int .i64 0,.slice none 0 0,.int .u8 1,.bool false,.int .i64 0,.int .i64 0,.slice none 0 0,.int .u8 4,.bool true,.int .i64 (-1),.int .i64 0,.slice (some ⟨br,0,none⟩) 1 1] 43)) {bn:Nat} (n_bn:V.heap.size≤bn) {bp:Nat} (n_bp:V.heap.size≤bp) (xp:At W bp (.cells (pC hv0++pC hv1++pC (hv2 bq)++pC hv3).toArray 118)) {bu:Nat} (n_bu:V.heap.size≤bu) (xu:At W bu (.cells #[.string ByteArray.empty,.int .i64 0,.slice none 0 0,.int .i64 0,.slice (some ⟨bl,0,none⟩) 3 3,.slice (some ⟨bn,0,none⟩) 3 3,.slice (some ⟨bp,0,none⟩) 4 4] 73)) :
  wpAnyH Tryz.prog .any handOps Q (fun W=>But b0 V W) 1 #[true,true,true,true,true,true,true,true,true,true,true,true,true,true,true,true,true,true,true,false] ⟨#[.pointer (some ⟨b0,0,none⟩),.pointer (some ⟨b1,0,none⟩),.slice (some ⟨bq,0,none⟩) 1 1,plV 2 (some ⟨bq,0,none⟩) 1 1,tyV 1 false 0 0 none 0 0,tyV 1 false 0 0 none 0 0,tyV 4 true (-1) 0 (some ⟨br,0,none⟩) 1 1,.slice (some ⟨bl,0,none⟩) 3 3,.slice (some ⟨bn,0,none⟩) 3 3,plV 2 none 0 0,plV 1 none 0 0,.agg (pC hv0).toArray,plV 1 none 0 0,.agg #[.int .u8 1,.int .i64 2,.int .i64 0,.slice none 0 0],.agg (pC hv1).toArray,plV 2 (some ⟨bq,0,none⟩) 1 1,.agg #[.int .u8 1,.int .i64 3,.int .i64 0,.slice none 0 0],.agg (pC (hv2 bq)).toArray,.agg (pC hv3).toArray,.slice (some ⟨bp,0,none⟩) 4 4,.agg #[.string ByteArray.empty,.int .i64 0,.slice none 0 0,.int .i64 0,.slice (some ⟨bl,0,none⟩) 3 3,.slice (some ⟨bn,0,none⟩) 3 3,.slice (some ⟨bp,0,none⟩) 4 4],.slice (some ⟨bu,0,none⟩) 1 1,uV none 0 0 (some ⟨bu,0,none⟩) 1 1 0],[]⟩ W:=by
 obtain ⟨e0,e1,e2⟩:=hc.x0.un
 have f0:W.frozen? ⟨b0,0,none⟩=false:=frozen_of_row W b0 0 _ 25 hc.x0
 have f1:W.frozen? ⟨b0,1,none⟩=false:=frozen_of_row W b0 1 _ 25 hc.x0
 have f2:W.frozen? ⟨b0,2,none⟩=false:=frozen_of_row W b0 2 _ 25 hc.x0
 have hl0:=hc.x0.lt
 obtain ⟨z1,z2,z3,z4⟩:=ne4 hc.hl n_bu n_bl n_br n_bp
 have hfin:=jH (hand_fin (w:=V) (V:=V) (bn:=bn) hc.hS hc.hl hc.x0 xu xl xr xp hc.xq (fun e=>z1 e.symm) (fun e=>z2 e.symm) (fun e=>z3 e.symm) (fun e=>z4 e.symm) hc.nq0)
 have HP:=jH hp
 clear hp z1 z2 z3 z4 xu xl xr xp hc n_bu n_bl n_br n_bn n_bp
 refine aR1 19 rfl (fun K hK=>?_)
 go_simp
 go_wp2_with fail
 refine hK.out _ _ hfin.out.1 (fun hH=>?_)
 try simp only [Act.put,List.setIfInBounds_toArray,pb,pc]
 exact wpAnyH_done (by kernel_rfl) (HP.out bu bl br bn bp _ hfin.out.1 hfin.out.2.1 hfin.out.2.2) _
theorem hs_0_1_2_3_4_9_12_15_ {Q:Exit→Act→World→Prop} (hq:CalmP Q) {V W:World} {b0 b1 bq:Nat} (hp:HPo Q V b0 b1 bq) (hc:HC V W b0 b1 bq) {br:Nat} (n_br:V.heap.size≤br) (xr:At W br (Fv.o ⟨1,false,0,0,none,0,0⟩)) {bl:Nat} (n_bl:V.heap.size≤bl) (xl:At W bl (.cells #[.int .u8 1,.bool false,.int .i64 0,.int .i64 0,.slice none 0 0,.int .u8 1,.bool false,.int .i64 0,.int .i64 0,.slice none 0 0,.int .u8 4,.bool true,.int .i64 (-1),.int .i64 0,.slice (some ⟨br,0,none⟩) 1 1] 43)) {bn:Nat} (n_bn:V.heap.size≤bn) {bp:Nat} (n_bp:V.heap.size≤bp) (xp:At W bp (.cells (pC hv0++pC hv1++pC (hv2 bq)++pC hv3).toArray 118)) :
  wpAnyH Tryz.prog .any handOps Q (fun W=>But b0 V W) 3 #[true,true,true,true,true,true,true,true,true,true,true,true,true,true,true,true,true,false,false,false] ⟨#[.pointer (some ⟨b0,0,none⟩),.pointer (some ⟨b1,0,none⟩),.slice (some ⟨bq,0,none⟩) 1 1,plV 2 (some ⟨bq,0,none⟩) 1 1,tyV 1 false 0 0 none 0 0,tyV 1 false 0 0 none 0 0,tyV 4 true (-1) 0 (some ⟨br,0,none⟩) 1 1,.slice (some ⟨bl,0,none⟩) 3 3,.slice (some ⟨bn,0,none⟩) 3 3,plV 2 none 0 0,plV 1 none 0 0,.agg (pC hv0).toArray,plV 1 none 0 0,.agg #[.int .u8 1,.int .i64 2,.int .i64 0,.slice none 0 0],.agg (pC hv1).toArray,plV 2 (some ⟨bq,0,none⟩) 1 1,.agg #[.int .u8 1,.int .i64 3,.int .i64 0,.slice none 0 0],.agg (pC (hv2 bq)).toArray,.agg (pC hv3).toArray,.slice (some ⟨bp,0,none⟩) 4 4,.agg #[.string ByteArray.empty,.int .i64 0,.slice none 0 0,.int .i64 0,.slice (some ⟨bl,0,none⟩) 3 3,.slice (some ⟨bn,0,none⟩) 3 3,.slice (some ⟨bp,0,none⟩) 4 4],undef,undef],[]⟩ W:=by
 refine aRd [17] ?_
 refine AllReadyH.cons (o:={ dst:=some 21,op:=.buildSlice 23 1 #[(0,.tmp 20)],type:=23,pos := "law.go:22",after:=_,guard:=none }) rfl (fun K hK=>?_) (AllReadyH.nil)
 ·rw [if_pos (by rfl)]
  refine wp_val (v:=.slice (some ⟨W.heap.size,0,none⟩) 1 1) (w':=W.alloc (.cells #[.string ByteArray.empty,.int .i64 0,.slice none 0 0,.int .i64 0,.slice (some ⟨bl,0,none⟩) 3 3,.slice (some ⟨bn,0,none⟩) 3 3,.slice (some ⟨bp,0,none⟩) 4 4] 73)) (by kernel_rfl) ?_
  have hb:Below W.heap.size W (W.alloc (.cells #[.string ByteArray.empty,.int .i64 0,.slice none 0 0,.int .i64 0,.slice (some ⟨bl,0,none⟩) 3 3,.slice (some ⟨bn,0,none⟩) 3 3,.slice (some ⟨bp,0,none⟩) 4 4] 73)):=belA bR
  have n_bu:V.heap.size≤W.heap.size:=hc.hS.size
  have xu:At (W.alloc (.cells #[.string ByteArray.empty,.int .i64 0,.slice none 0 0,.int .i64 0,.slice (some ⟨bl,0,none⟩) 3 3,.slice (some ⟨bn,0,none⟩) 3 3,.slice (some ⟨bp,0,none⟩) 4 4] 73)) W.heap.size (.cells #[.string ByteArray.empty,.int .i64 0,.slice none 0 0,.int .i64 0,.slice (some ⟨bl,0,none⟩) 3 3,.slice (some ⟨bn,0,none⟩) 3 3,.slice (some ⟨bp,0,none⟩) 4 4] 73):=At.new _ _
  have hc2:=hc.bel hb
  refine hK.out _ _ hc2.hS (fun hH=>?_)
  try simp only [Act.put,List.setIfInBounds_toArray,pb,pc]
  obtain ⟨bu,hbu⟩:∃ bu,bu=W.heap.size:=⟨_,rfl⟩
  rw [← hbu] at n_bu xu ⊢
  refine tq 18 22 (uV none 0 0 (some ⟨bu,0,none⟩) 1 1 0) hq rfl rfl (fun W hSw=>by kernel_rfl) hH ?_
  simp only [pb,pc]
  exact hs_0_1_2_3_4_9_12_15_17_ hq hp hc2 n_br (xr.below hb) n_bl (xl.below hb) n_bn n_bp (xp.below hb) n_bu xu
theorem hs_0_1_2_3_4_9_12_ {Q:Exit→Act→World→Prop} (hq:CalmP Q) {V W:World} {b0 b1 bq:Nat} (hp:HPo Q V b0 b1 bq) (hc:HC V W b0 b1 bq) {br:Nat} (n_br:V.heap.size≤br) (xr:At W br (Fv.o ⟨1,false,0,0,none,0,0⟩)) {bl:Nat} (n_bl:V.heap.size≤bl) (xl:At W bl (.cells #[.int .u8 1,.bool false,.int .i64 0,.int .i64 0,.slice none 0 0,.int .u8 1,.bool false,.int .i64 0,.int .i64 0,.slice none 0 0,.int .u8 4,.bool true,.int .i64 (-1),.int .i64 0,.slice (some ⟨br,0,none⟩) 1 1] 43)) {bn:Nat} (n_bn:V.heap.size≤bn) :
  wpAnyH Tryz.prog .any handOps Q (fun W=>But b0 V W) 5 #[true,true,true,true,true,true,true,true,true,true,true,true,true,true,true,false,false,false,false,false] ⟨#[.pointer (some ⟨b0,0,none⟩),.pointer (some ⟨b1,0,none⟩),.slice (some ⟨bq,0,none⟩) 1 1,plV 2 (some ⟨bq,0,none⟩) 1 1,tyV 1 false 0 0 none 0 0,tyV 1 false 0 0 none 0 0,tyV 4 true (-1) 0 (some ⟨br,0,none⟩) 1 1,.slice (some ⟨bl,0,none⟩) 3 3,.slice (some ⟨bn,0,none⟩) 3 3,plV 2 none 0 0,plV 1 none 0 0,.agg (pC hv0).toArray,plV 1 none 0 0,.agg #[.int .u8 1,.int .i64 2,.int .i64 0,.slice none 0 0],.agg (pC hv1).toArray,plV 2 (some ⟨bq,0,none⟩) 1 1,.agg #[.int .u8 1,.int .i64 3,.int .i64 0,.slice none 0 0],.agg (pC (hv2 bq)).toArray,.agg (pC hv3).toArray,undef,undef,undef,undef],[]⟩ W:=by
 refine aRd [15] ?_
 refine AllReadyH.cons (o:={ dst:=some 19,op:=.buildSlice 71 4 #[(0,.tmp 11),(1,.tmp 14),(2,.tmp 17),(3,.tmp 18)],type:=71,pos := "law.go:22",after:=_,guard:=none }) rfl (fun K hK=>?_) (AllReadyH.nil)
 ·rw [if_pos (by rfl)]
  refine wp_val (v:=.slice (some ⟨W.heap.size,0,none⟩) 4 4) (w':=W.alloc (.cells (pC hv0++pC hv1++pC (hv2 bq)++pC hv3).toArray 118)) (by kernel_rfl) ?_
  have hb:Below W.heap.size W (W.alloc (.cells (pC hv0++pC hv1++pC (hv2 bq)++pC hv3).toArray 118)):=belA bR
  have n_bp:V.heap.size≤W.heap.size:=hc.hS.size
  have xp:At (W.alloc (.cells (pC hv0++pC hv1++pC (hv2 bq)++pC hv3).toArray 118)) W.heap.size (.cells (pC hv0++pC hv1++pC (hv2 bq)++pC hv3).toArray 118):=At.new _ _
  have hc2:=hc.bel hb
  refine hK.out _ _ hc2.hS (fun hH=>?_)
  try simp only [Act.put,List.setIfInBounds_toArray,pb,pc]
  obtain ⟨bp,hbp⟩:∃ bp,bp=W.heap.size:=⟨_,rfl⟩
  rw [← hbp] at n_bp xp ⊢
  refine tq 16 20 (.agg #[.string ByteArray.empty,.int .i64 0,.slice none 0 0,.int .i64 0,.slice (some ⟨bl,0,none⟩) 3 3,.slice (some ⟨bn,0,none⟩) 3 3,.slice (some ⟨bp,0,none⟩) 4 4]) hq rfl rfl (fun W hSw=>by kernel_rfl) hH ?_
  simp only [pb,pc]
  exact hs_0_1_2_3_4_9_12_15_ hq hp hc2 n_br (xr.below hb) n_bl (xl.below hb) n_bn n_bp xp
theorem hs_0_1_2_3_9_12_15_ {Q:Exit→Act→World→Prop} (hq:CalmP Q) {V W:World} {b0 b1 bq:Nat} (hp:HPo Q V b0 b1 bq) (hc:HC V W b0 b1 bq) {br:Nat} (n_br:V.heap.size≤br) (xr:At W br (Fv.o ⟨1,false,0,0,none,0,0⟩)) {bl:Nat} (n_bl:V.heap.size≤bl) (xl:At W bl (.cells #[.int .u8 1,.bool false,.int .i64 0,.int .i64 0,.slice none 0 0,.int .u8 1,.bool false,.int .i64 0,.int .i64 0,.slice none 0 0,.int .u8 4,.bool true,.int .i64 (-1),.int .i64 0,.slice (some ⟨br,0,none⟩) 1 1] 43)) {bp:Nat} (n_bp:V.heap.size≤bp) (xp:At W bp (.cells (pC hv0++pC hv1++pC (hv2 bq)++pC hv3).toArray 118)) :
  wpAnyH Tryz.prog .any handOps Q (fun W=>But b0 V W) 5 #[true,true,true,true,false,true,true,true,true,true,true,true,true,true,true,true,false,false,false,false] ⟨#[.pointer (some ⟨b0,0,none⟩),.pointer (some ⟨b1,0,none⟩),.slice (some ⟨bq,0,none⟩) 1 1,plV 2 (some ⟨bq,0,none⟩) 1 1,tyV 1 false 0 0 none 0 0,tyV 1 false 0 0 none 0 0,tyV 4 true (-1) 0 (some ⟨br,0,none⟩) 1 1,.slice (some ⟨bl,0,none⟩) 3 3,undef,plV 2 none 0 0,plV 1 none 0 0,.agg (pC hv0).toArray,plV 1 none 0 0,.agg #[.int .u8 1,.int .i64 2,.int .i64 0,.slice none 0 0],.agg (pC hv1).toArray,plV 2 (some ⟨bq,0,none⟩) 1 1,.agg #[.int .u8 1,.int .i64 3,.int .i64 0,.slice none 0 0],.agg (pC (hv2 bq)).toArray,.agg (pC hv3).toArray,.slice (some ⟨bp,0,none⟩) 4 4,undef,undef,undef],[]⟩ W:=by
 refine aRd [4] ?_
 refine AllReadyH.cons (o:={ dst:=some 8,op:=.makeSlice 70 (.const (.int .i64 3)) (.const (.int .i64 3)),type:=70,pos := "law.go:22",after:=_,guard:=none }) rfl (fun K hK=>?_) (AllReadyH.nil)
 ·rw [if_pos (by rfl)]
  refine wp_val (v:=.slice (some ⟨W.heap.size,0,none⟩) 3 3) (w':=W.alloc (.cells #[.string ByteArray.empty,.string ByteArray.empty,.string ByteArray.empty] 9)) (by kernel_rfl) ?_
  have hb:Below W.heap.size W (W.alloc (.cells #[.string ByteArray.empty,.string ByteArray.empty,.string ByteArray.empty] 9)):=belA bR
  have n_bn:V.heap.size≤W.heap.size:=hc.hS.size
  have hc2:=hc.bel hb
  refine hK.out _ _ hc2.hS (fun hH=>?_)
  try simp only [Act.put,List.setIfInBounds_toArray,pb,pc]
  obtain ⟨bn,hbn⟩:∃ bn,bn=W.heap.size:=⟨_,rfl⟩
  rw [← hbn] at n_bn  ⊢
  refine tq 16 20 (.agg #[.string ByteArray.empty,.int .i64 0,.slice none 0 0,.int .i64 0,.slice (some ⟨bl,0,none⟩) 3 3,.slice (some ⟨bn,0,none⟩) 3 3,.slice (some ⟨bp,0,none⟩) 4 4]) hq rfl rfl (fun W hSw=>by kernel_rfl) hH ?_
  simp only [pb,pc]
  exact hs_0_1_2_3_4_9_12_15_ hq hp hc2 n_br (xr.below hb) n_bl (xl.below hb) n_bn n_bp (xp.below hb)
theorem hs_0_1_2_4_9_12_15_ {Q:Exit→Act→World→Prop} (hq:CalmP Q) {V W:World} {b0 b1 bq:Nat} (hp:HPo Q V b0 b1 bq) (hc:HC V W b0 b1 bq) {br:Nat} (n_br:V.heap.size≤br) (xr:At W br (Fv.o ⟨1,false,0,0,none,0,0⟩)) {bn:Nat} (n_bn:V.heap.size≤bn) {bp:Nat} (n_bp:V.heap.size≤bp) (xp:At W bp (.cells (pC hv0++pC hv1++pC (hv2 bq)++pC hv3).toArray 118)) :
  wpAnyH Tryz.prog .any handOps Q (fun W=>But b0 V W) 5 #[true,true,true,false,true,true,true,true,true,true,true,true,true,true,true,true,false,false,false,false] ⟨#[.pointer (some ⟨b0,0,none⟩),.pointer (some ⟨b1,0,none⟩),.slice (some ⟨bq,0,none⟩) 1 1,plV 2 (some ⟨bq,0,none⟩) 1 1,tyV 1 false 0 0 none 0 0,tyV 1 false 0 0 none 0 0,tyV 4 true (-1) 0 (some ⟨br,0,none⟩) 1 1,undef,.slice (some ⟨bn,0,none⟩) 3 3,plV 2 none 0 0,plV 1 none 0 0,.agg (pC hv0).toArray,plV 1 none 0 0,.agg #[.int .u8 1,.int .i64 2,.int .i64 0,.slice none 0 0],.agg (pC hv1).toArray,plV 2 (some ⟨bq,0,none⟩) 1 1,.agg #[.int .u8 1,.int .i64 3,.int .i64 0,.slice none 0 0],.agg (pC (hv2 bq)).toArray,.agg (pC hv3).toArray,.slice (some ⟨bp,0,none⟩) 4 4,undef,undef,undef],[]⟩ W:=by
 refine aRd [3] ?_
 refine AllReadyH.cons (o:={ dst:=some 7,op:=.buildSlice 41 3 #[(0,.tmp 4),(1,.tmp 5),(2,.tmp 6)],type:=41,pos := "law.go:22",after:=_,guard:=none }) rfl (fun K hK=>?_) (AllReadyH.nil)
 ·rw [if_pos (by rfl)]
  refine wp_val (v:=.slice (some ⟨W.heap.size,0,none⟩) 3 3) (w':=W.alloc (.cells #[.int .u8 1,.bool false,.int .i64 0,.int .i64 0,.slice none 0 0,.int .u8 1,.bool false,.int .i64 0,.int .i64 0,.slice none 0 0,.int .u8 4,.bool true,.int .i64 (-1),.int .i64 0,.slice (some ⟨br,0,none⟩) 1 1] 43)) (by kernel_rfl) ?_
  have hb:Below W.heap.size W (W.alloc (.cells #[.int .u8 1,.bool false,.int .i64 0,.int .i64 0,.slice none 0 0,.int .u8 1,.bool false,.int .i64 0,.int .i64 0,.slice none 0 0,.int .u8 4,.bool true,.int .i64 (-1),.int .i64 0,.slice (some ⟨br,0,none⟩) 1 1] 43)):=belA bR
  have n_bl:V.heap.size≤W.heap.size:=hc.hS.size
  have xl:At (W.alloc (.cells #[.int .u8 1,.bool false,.int .i64 0,.int .i64 0,.slice none 0 0,.int .u8 1,.bool false,.int .i64 0,.int .i64 0,.slice none 0 0,.int .u8 4,.bool true,.int .i64 (-1),.int .i64 0,.slice (some ⟨br,0,none⟩) 1 1] 43)) W.heap.size (.cells #[.int .u8 1,.bool false,.int .i64 0,.int .i64 0,.slice none 0 0,.int .u8 1,.bool false,.int .i64 0,.int .i64 0,.slice none 0 0,.int .u8 4,.bool true,.int .i64 (-1),.int .i64 0,.slice (some ⟨br,0,none⟩) 1 1] 43):=At.new _ _
  have hc2:=hc.bel hb
  refine hK.out _ _ hc2.hS (fun hH=>?_)
  try simp only [Act.put,List.setIfInBounds_toArray,pb,pc]
  obtain ⟨bl,hbl⟩:∃ bl,bl=W.heap.size:=⟨_,rfl⟩
  rw [← hbl] at n_bl xl ⊢
  refine tq 16 20 (.agg #[.string ByteArray.empty,.int .i64 0,.slice none 0 0,.int .i64 0,.slice (some ⟨bl,0,none⟩) 3 3,.slice (some ⟨bn,0,none⟩) 3 3,.slice (some ⟨bp,0,none⟩) 4 4]) hq rfl rfl (fun W hSw=>by kernel_rfl) hH ?_
  simp only [pb,pc]
  exact hs_0_1_2_3_4_9_12_15_ hq hp hc2 n_br (xr.below hb) n_bl xl n_bn n_bp (xp.below hb)
theorem hs_0_1_2_3_9_12_ {Q:Exit→Act→World→Prop} (hq:CalmP Q) {V W:World} {b0 b1 bq:Nat} (hp:HPo Q V b0 b1 bq) (hc:HC V W b0 b1 bq) {br:Nat} (n_br:V.heap.size≤br) (xr:At W br (Fv.o ⟨1,false,0,0,none,0,0⟩)) {bl:Nat} (n_bl:V.heap.size≤bl) (xl:At W bl (.cells #[.int .u8 1,.bool false,.int .i64 0,.int .i64 0,.slice none 0 0,.int .u8 1,.bool false,.int .i64 0,.int .i64 0,.slice none 0 0,.int .u8 4,.bool true,.int .i64 (-1),.int .i64 0,.slice (some ⟨br,0,none⟩) 1 1] 43)) :
  wpAnyH Tryz.prog .any handOps Q (fun W=>But b0 V W) 6 #[true,true,true,true,false,true,true,true,true,true,true,true,true,true,true,false,false,false,false,false] ⟨#[.pointer (some ⟨b0,0,none⟩),.pointer (some ⟨b1,0,none⟩),.slice (some ⟨bq,0,none⟩) 1 1,plV 2 (some ⟨bq,0,none⟩) 1 1,tyV 1 false 0 0 none 0 0,tyV 1 false 0 0 none 0 0,tyV 4 true (-1) 0 (some ⟨br,0,none⟩) 1 1,.slice (some ⟨bl,0,none⟩) 3 3,undef,plV 2 none 0 0,plV 1 none 0 0,.agg (pC hv0).toArray,plV 1 none 0 0,.agg #[.int .u8 1,.int .i64 2,.int .i64 0,.slice none 0 0],.agg (pC hv1).toArray,plV 2 (some ⟨bq,0,none⟩) 1 1,.agg #[.int .u8 1,.int .i64 3,.int .i64 0,.slice none 0 0],.agg (pC (hv2 bq)).toArray,.agg (pC hv3).toArray,undef,undef,undef,undef],[]⟩ W:=by
 refine aRd [4,15] ?_
 refine AllReadyH.cons (o:={ dst:=some 8,op:=.makeSlice 70 (.const (.int .i64 3)) (.const (.int .i64 3)),type:=70,pos := "law.go:22",after:=_,guard:=none }) rfl (fun K hK=>?_) (AllReadyH.cons (o:={ dst:=some 19,op:=.buildSlice 71 4 #[(0,.tmp 11),(1,.tmp 14),(2,.tmp 17),(3,.tmp 18)],type:=71,pos := "law.go:22",after:=_,guard:=none }) rfl (fun K hK=>?_) (AllReadyH.nil))
 ·rw [if_pos (by rfl)]
  refine wp_val (v:=.slice (some ⟨W.heap.size,0,none⟩) 3 3) (w':=W.alloc (.cells #[.string ByteArray.empty,.string ByteArray.empty,.string ByteArray.empty] 9)) (by kernel_rfl) ?_
  have hb:Below W.heap.size W (W.alloc (.cells #[.string ByteArray.empty,.string ByteArray.empty,.string ByteArray.empty] 9)):=belA bR
  have n_bn:V.heap.size≤W.heap.size:=hc.hS.size
  have hc2:=hc.bel hb
  refine hK.out _ _ hc2.hS (fun hH=>?_)
  try simp only [Act.put,List.setIfInBounds_toArray,pb,pc]
  obtain ⟨bn,hbn⟩:∃ bn,bn=W.heap.size:=⟨_,rfl⟩
  rw [← hbn] at n_bn  ⊢
  exact hs_0_1_2_3_4_9_12_ hq hp hc2 n_br (xr.below hb) n_bl (xl.below hb) n_bn
 ·rw [if_pos (by rfl)]
  refine wp_val (v:=.slice (some ⟨W.heap.size,0,none⟩) 4 4) (w':=W.alloc (.cells (pC hv0++pC hv1++pC (hv2 bq)++pC hv3).toArray 118)) (by kernel_rfl) ?_
  have hb:Below W.heap.size W (W.alloc (.cells (pC hv0++pC hv1++pC (hv2 bq)++pC hv3).toArray 118)):=belA bR
  have n_bp:V.heap.size≤W.heap.size:=hc.hS.size
  have xp:At (W.alloc (.cells (pC hv0++pC hv1++pC (hv2 bq)++pC hv3).toArray 118)) W.heap.size (.cells (pC hv0++pC hv1++pC (hv2 bq)++pC hv3).toArray 118):=At.new _ _
  have hc2:=hc.bel hb
  refine hK.out _ _ hc2.hS (fun hH=>?_)
  try simp only [Act.put,List.setIfInBounds_toArray,pb,pc]
  obtain ⟨bp,hbp⟩:∃ bp,bp=W.heap.size:=⟨_,rfl⟩
  rw [← hbp] at n_bp xp ⊢
  exact hs_0_1_2_3_9_12_15_ hq hp hc2 n_br (xr.below hb) n_bl (xl.below hb) n_bp xp
theorem hs_0_1_2_4_9_12_ {Q:Exit→Act→World→Prop} (hq:CalmP Q) {V W:World} {b0 b1 bq:Nat} (hp:HPo Q V b0 b1 bq) (hc:HC V W b0 b1 bq) {br:Nat} (n_br:V.heap.size≤br) (xr:At W br (Fv.o ⟨1,false,0,0,none,0,0⟩)) {bn:Nat} (n_bn:V.heap.size≤bn) :
  wpAnyH Tryz.prog .any handOps Q (fun W=>But b0 V W) 6 #[true,true,true,false,true,true,true,true,true,true,true,true,true,true,true,false,false,false,false,false] ⟨#[.pointer (some ⟨b0,0,none⟩),.pointer (some ⟨b1,0,none⟩),.slice (some ⟨bq,0,none⟩) 1 1,plV 2 (some ⟨bq,0,none⟩) 1 1,tyV 1 false 0 0 none 0 0,tyV 1 false 0 0 none 0 0,tyV 4 true (-1) 0 (some ⟨br,0,none⟩) 1 1,undef,.slice (some ⟨bn,0,none⟩) 3 3,plV 2 none 0 0,plV 1 none 0 0,.agg (pC hv0).toArray,plV 1 none 0 0,.agg #[.int .u8 1,.int .i64 2,.int .i64 0,.slice none 0 0],.agg (pC hv1).toArray,plV 2 (some ⟨bq,0,none⟩) 1 1,.agg #[.int .u8 1,.int .i64 3,.int .i64 0,.slice none 0 0],.agg (pC (hv2 bq)).toArray,.agg (pC hv3).toArray,undef,undef,undef,undef],[]⟩ W:=by
 refine aRd [3,15] ?_
 refine AllReadyH.cons (o:={ dst:=some 7,op:=.buildSlice 41 3 #[(0,.tmp 4),(1,.tmp 5),(2,.tmp 6)],type:=41,pos := "law.go:22",after:=_,guard:=none }) rfl (fun K hK=>?_) (AllReadyH.cons (o:={ dst:=some 19,op:=.buildSlice 71 4 #[(0,.tmp 11),(1,.tmp 14),(2,.tmp 17),(3,.tmp 18)],type:=71,pos := "law.go:22",after:=_,guard:=none }) rfl (fun K hK=>?_) (AllReadyH.nil))
 ·rw [if_pos (by rfl)]
  refine wp_val (v:=.slice (some ⟨W.heap.size,0,none⟩) 3 3) (w':=W.alloc (.cells #[.int .u8 1,.bool false,.int .i64 0,.int .i64 0,.slice none 0 0,.int .u8 1,.bool false,.int .i64 0,.int .i64 0,.slice none 0 0,.int .u8 4,.bool true,.int .i64 (-1),.int .i64 0,.slice (some ⟨br,0,none⟩) 1 1] 43)) (by kernel_rfl) ?_
  have hb:Below W.heap.size W (W.alloc (.cells #[.int .u8 1,.bool false,.int .i64 0,.int .i64 0,.slice none 0 0,.int .u8 1,.bool false,.int .i64 0,.int .i64 0,.slice none 0 0,.int .u8 4,.bool true,.int .i64 (-1),.int .i64 0,.slice (some ⟨br,0,none⟩) 1 1] 43)):=belA bR
  have n_bl:V.heap.size≤W.heap.size:=hc.hS.size
  have xl:At (W.alloc (.cells #[.int .u8 1,.bool false,.int .i64 0,.int .i64 0,.slice none 0 0,.int .u8 1,.bool false,.int .i64 0,.int .i64 0,.slice none 0 0,.int .u8 4,.bool true,.int .i64 (-1),.int .i64 0,.slice (some ⟨br,0,none⟩) 1 1] 43)) W.heap.size (.cells #[.int .u8 1,.bool false,.int .i64 0,.int .i64 0,.slice none 0 0,.int .u8 1,.bool false,.int .i64 0,.int .i64 0,.slice none 0 0,.int .u8 4,.bool true,.int .i64 (-1),.int .i64 0,.slice (some ⟨br,0,none⟩) 1 1] 43):=At.new _ _
  have hc2:=hc.bel hb
  refine hK.out _ _ hc2.hS (fun hH=>?_)
  try simp only [Act.put,List.setIfInBounds_toArray,pb,pc]
  obtain ⟨bl,hbl⟩:∃ bl,bl=W.heap.size:=⟨_,rfl⟩
  rw [← hbl] at n_bl xl ⊢
  exact hs_0_1_2_3_4_9_12_ hq hp hc2 n_br (xr.below hb) n_bl xl n_bn
 ·rw [if_pos (by rfl)]
  refine wp_val (v:=.slice (some ⟨W.heap.size,0,none⟩) 4 4) (w':=W.alloc (.cells (pC hv0++pC hv1++pC (hv2 bq)++pC hv3).toArray 118)) (by kernel_rfl) ?_
  have hb:Below W.heap.size W (W.alloc (.cells (pC hv0++pC hv1++pC (hv2 bq)++pC hv3).toArray 118)):=belA bR
  have n_bp:V.heap.size≤W.heap.size:=hc.hS.size
  have xp:At (W.alloc (.cells (pC hv0++pC hv1++pC (hv2 bq)++pC hv3).toArray 118)) W.heap.size (.cells (pC hv0++pC hv1++pC (hv2 bq)++pC hv3).toArray 118):=At.new _ _
  have hc2:=hc.bel hb
  refine hK.out _ _ hc2.hS (fun hH=>?_)
  try simp only [Act.put,List.setIfInBounds_toArray,pb,pc]
  obtain ⟨bp,hbp⟩:∃ bp,bp=W.heap.size:=⟨_,rfl⟩
  rw [← hbp] at n_bp xp ⊢
  exact hs_0_1_2_4_9_12_15_ hq hp hc2 n_br (xr.below hb) n_bn n_bp xp
theorem hs_0_1_2_9_12_15_ {Q:Exit→Act→World→Prop} (hq:CalmP Q) {V W:World} {b0 b1 bq:Nat} (hp:HPo Q V b0 b1 bq) (hc:HC V W b0 b1 bq) {br:Nat} (n_br:V.heap.size≤br) (xr:At W br (Fv.o ⟨1,false,0,0,none,0,0⟩)) {bp:Nat} (n_bp:V.heap.size≤bp) (xp:At W bp (.cells (pC hv0++pC hv1++pC (hv2 bq)++pC hv3).toArray 118)) :
  wpAnyH Tryz.prog .any handOps Q (fun W=>But b0 V W) 6 #[true,true,true,false,false,true,true,true,true,true,true,true,true,true,true,true,false,false,false,false] ⟨#[.pointer (some ⟨b0,0,none⟩),.pointer (some ⟨b1,0,none⟩),.slice (some ⟨bq,0,none⟩) 1 1,plV 2 (some ⟨bq,0,none⟩) 1 1,tyV 1 false 0 0 none 0 0,tyV 1 false 0 0 none 0 0,tyV 4 true (-1) 0 (some ⟨br,0,none⟩) 1 1,undef,undef,plV 2 none 0 0,plV 1 none 0 0,.agg (pC hv0).toArray,plV 1 none 0 0,.agg #[.int .u8 1,.int .i64 2,.int .i64 0,.slice none 0 0],.agg (pC hv1).toArray,plV 2 (some ⟨bq,0,none⟩) 1 1,.agg #[.int .u8 1,.int .i64 3,.int .i64 0,.slice none 0 0],.agg (pC (hv2 bq)).toArray,.agg (pC hv3).toArray,.slice (some ⟨bp,0,none⟩) 4 4,undef,undef,undef],[]⟩ W:=by
 refine aRd [3,4] ?_
 refine AllReadyH.cons (o:={ dst:=some 7,op:=.buildSlice 41 3 #[(0,.tmp 4),(1,.tmp 5),(2,.tmp 6)],type:=41,pos := "law.go:22",after:=_,guard:=none }) rfl (fun K hK=>?_) (AllReadyH.cons (o:={ dst:=some 8,op:=.makeSlice 70 (.const (.int .i64 3)) (.const (.int .i64 3)),type:=70,pos := "law.go:22",after:=_,guard:=none }) rfl (fun K hK=>?_) (AllReadyH.nil))
 ·rw [if_pos (by rfl)]
  refine wp_val (v:=.slice (some ⟨W.heap.size,0,none⟩) 3 3) (w':=W.alloc (.cells #[.int .u8 1,.bool false,.int .i64 0,.int .i64 0,.slice none 0 0,.int .u8 1,.bool false,.int .i64 0,.int .i64 0,.slice none 0 0,.int .u8 4,.bool true,.int .i64 (-1),.int .i64 0,.slice (some ⟨br,0,none⟩) 1 1] 43)) (by kernel_rfl) ?_
  have hb:Below W.heap.size W (W.alloc (.cells #[.int .u8 1,.bool false,.int .i64 0,.int .i64 0,.slice none 0 0,.int .u8 1,.bool false,.int .i64 0,.int .i64 0,.slice none 0 0,.int .u8 4,.bool true,.int .i64 (-1),.int .i64 0,.slice (some ⟨br,0,none⟩) 1 1] 43)):=belA bR
  have n_bl:V.heap.size≤W.heap.size:=hc.hS.size
  have xl:At (W.alloc (.cells #[.int .u8 1,.bool false,.int .i64 0,.int .i64 0,.slice none 0 0,.int .u8 1,.bool false,.int .i64 0,.int .i64 0,.slice none 0 0,.int .u8 4,.bool true,.int .i64 (-1),.int .i64 0,.slice (some ⟨br,0,none⟩) 1 1] 43)) W.heap.size (.cells #[.int .u8 1,.bool false,.int .i64 0,.int .i64 0,.slice none 0 0,.int .u8 1,.bool false,.int .i64 0,.int .i64 0,.slice none 0 0,.int .u8 4,.bool true,.int .i64 (-1),.int .i64 0,.slice (some ⟨br,0,none⟩) 1 1] 43):=At.new _ _
  have hc2:=hc.bel hb
  refine hK.out _ _ hc2.hS (fun hH=>?_)
  try simp only [Act.put,List.setIfInBounds_toArray,pb,pc]
  obtain ⟨bl,hbl⟩:∃ bl,bl=W.heap.size:=⟨_,rfl⟩
  rw [← hbl] at n_bl xl ⊢
  exact hs_0_1_2_3_9_12_15_ hq hp hc2 n_br (xr.below hb) n_bl xl n_bp (xp.below hb)
 ·rw [if_pos (by rfl)]
  refine wp_val (v:=.slice (some ⟨W.heap.size,0,none⟩) 3 3) (w':=W.alloc (.cells #[.string ByteArray.empty,.string ByteArray.empty,.string ByteArray.empty] 9)) (by kernel_rfl) ?_
  have hb:Below W.heap.size W (W.alloc (.cells #[.string ByteArray.empty,.string ByteArray.empty,.string ByteArray.empty] 9)):=belA bR
  have n_bn:V.heap.size≤W.heap.size:=hc.hS.size
  have hc2:=hc.bel hb
  refine hK.out _ _ hc2.hS (fun hH=>?_)
  try simp only [Act.put,List.setIfInBounds_toArray,pb,pc]
  obtain ⟨bn,hbn⟩:∃ bn,bn=W.heap.size:=⟨_,rfl⟩
  rw [← hbn] at n_bn  ⊢
  exact hs_0_1_2_4_9_12_15_ hq hp hc2 n_br (xr.below hb) n_bn n_bp (xp.below hb)
theorem hs_0_1_2_3_4_9_ {Q:Exit→Act→World→Prop} (hq:CalmP Q) {V W:World} {b0 b1 bq:Nat} (hp:HPo Q V b0 b1 bq) (hc:HC V W b0 b1 bq) {br:Nat} (n_br:V.heap.size≤br) (xr:At W br (Fv.o ⟨1,false,0,0,none,0,0⟩)) {bl:Nat} (n_bl:V.heap.size≤bl) (xl:At W bl (.cells #[.int .u8 1,.bool false,.int .i64 0,.int .i64 0,.slice none 0 0,.int .u8 1,.bool false,.int .i64 0,.int .i64 0,.slice none 0 0,.int .u8 4,.bool true,.int .i64 (-1),.int .i64 0,.slice (some ⟨br,0,none⟩) 1 1] 43)) {bn:Nat} (n_bn:V.heap.size≤bn) :
  wpAnyH Tryz.prog .any handOps Q (fun W=>But b0 V W) 7 #[true,true,true,true,true,true,true,true,true,true,true,true,false,false,true,false,false,false,false,false] ⟨#[.pointer (some ⟨b0,0,none⟩),.pointer (some ⟨b1,0,none⟩),.slice (some ⟨bq,0,none⟩) 1 1,plV 2 (some ⟨bq,0,none⟩) 1 1,tyV 1 false 0 0 none 0 0,tyV 1 false 0 0 none 0 0,tyV 4 true (-1) 0 (some ⟨br,0,none⟩) 1 1,.slice (some ⟨bl,0,none⟩) 3 3,.slice (some ⟨bn,0,none⟩) 3 3,plV 2 none 0 0,plV 1 none 0 0,.agg (pC hv0).toArray,plV 1 none 0 0,.agg #[.int .u8 1,.int .i64 2,.int .i64 0,.slice none 0 0],.agg (pC hv1).toArray,plV 2 (some ⟨bq,0,none⟩) 1 1,undef,undef,.agg (pC hv3).toArray,undef,undef,undef,undef],[]⟩ W:=by
 refine aRd [12] ?_
 refine AllReadyH.cons rfl (fun K hK=>?_) (AllReadyH.nil)
 ·go_simp
  refine (con_any W 3).mono ?_
  rintro e W2 ⟨rfl,hb⟩
  go_wp2_with fail
  have hc2:=hc.bel hb
  refine hK.out _ _ hc2.hS (fun hH=>?_)
  try simp only [Act.put,List.setIfInBounds_toArray,pb,pc]
  refine tq 13 17 (.agg (pC (hv2 bq)).toArray) hq rfl rfl (fun W hSw=>by kernel_rfl) hH ?_
  simp only [pb,pc]
  exact hs_0_1_2_3_4_9_12_ hq hp hc2 n_br (xr.below hb) n_bl (xl.below hb) n_bn
theorem hs_0_1_2_9_12_ {Q:Exit→Act→World→Prop} (hq:CalmP Q) {V W:World} {b0 b1 bq:Nat} (hp:HPo Q V b0 b1 bq) (hc:HC V W b0 b1 bq) {br:Nat} (n_br:V.heap.size≤br) (xr:At W br (Fv.o ⟨1,false,0,0,none,0,0⟩)) :
  wpAnyH Tryz.prog .any handOps Q (fun W=>But b0 V W) 7 #[true,true,true,false,false,true,true,true,true,true,true,true,true,true,true,false,false,false,false,false] ⟨#[.pointer (some ⟨b0,0,none⟩),.pointer (some ⟨b1,0,none⟩),.slice (some ⟨bq,0,none⟩) 1 1,plV 2 (some ⟨bq,0,none⟩) 1 1,tyV 1 false 0 0 none 0 0,tyV 1 false 0 0 none 0 0,tyV 4 true (-1) 0 (some ⟨br,0,none⟩) 1 1,undef,undef,plV 2 none 0 0,plV 1 none 0 0,.agg (pC hv0).toArray,plV 1 none 0 0,.agg #[.int .u8 1,.int .i64 2,.int .i64 0,.slice none 0 0],.agg (pC hv1).toArray,plV 2 (some ⟨bq,0,none⟩) 1 1,.agg #[.int .u8 1,.int .i64 3,.int .i64 0,.slice none 0 0],.agg (pC (hv2 bq)).toArray,.agg (pC hv3).toArray,undef,undef,undef,undef],[]⟩ W:=by
 refine aRd [3,4,15] ?_
 refine AllReadyH.cons (o:={ dst:=some 7,op:=.buildSlice 41 3 #[(0,.tmp 4),(1,.tmp 5),(2,.tmp 6)],type:=41,pos := "law.go:22",after:=_,guard:=none }) rfl (fun K hK=>?_) (AllReadyH.cons (o:={ dst:=some 8,op:=.makeSlice 70 (.const (.int .i64 3)) (.const (.int .i64 3)),type:=70,pos := "law.go:22",after:=_,guard:=none }) rfl (fun K hK=>?_) (AllReadyH.cons (o:={ dst:=some 19,op:=.buildSlice 71 4 #[(0,.tmp 11),(1,.tmp 14),(2,.tmp 17),(3,.tmp 18)],type:=71,pos := "law.go:22",after:=_,guard:=none }) rfl (fun K hK=>?_) (AllReadyH.nil)))
 ·rw [if_pos (by rfl)]
  refine wp_val (v:=.slice (some ⟨W.heap.size,0,none⟩) 3 3) (w':=W.alloc (.cells #[.int .u8 1,.bool false,.int .i64 0,.int .i64 0,.slice none 0 0,.int .u8 1,.bool false,.int .i64 0,.int .i64 0,.slice none 0 0,.int .u8 4,.bool true,.int .i64 (-1),.int .i64 0,.slice (some ⟨br,0,none⟩) 1 1] 43)) (by kernel_rfl) ?_
  have hb:Below W.heap.size W (W.alloc (.cells #[.int .u8 1,.bool false,.int .i64 0,.int .i64 0,.slice none 0 0,.int .u8 1,.bool false,.int .i64 0,.int .i64 0,.slice none 0 0,.int .u8 4,.bool true,.int .i64 (-1),.int .i64 0,.slice (some ⟨br,0,none⟩) 1 1] 43)):=belA bR
  have n_bl:V.heap.size≤W.heap.size:=hc.hS.size
  have xl:At (W.alloc (.cells #[.int .u8 1,.bool false,.int .i64 0,.int .i64 0,.slice none 0 0,.int .u8 1,.bool false,.int .i64 0,.int .i64 0,.slice none 0 0,.int .u8 4,.bool true,.int .i64 (-1),.int .i64 0,.slice (some ⟨br,0,none⟩) 1 1] 43)) W.heap.size (.cells #[.int .u8 1,.bool false,.int .i64 0,.int .i64 0,.slice none 0 0,.int .u8 1,.bool false,.int .i64 0,.int .i64 0,.slice none 0 0,.int .u8 4,.bool true,.int .i64 (-1),.int .i64 0,.slice (some ⟨br,0,none⟩) 1 1] 43):=At.new _ _
  have hc2:=hc.bel hb
  refine hK.out _ _ hc2.hS (fun hH=>?_)
  try simp only [Act.put,List.setIfInBounds_toArray,pb,pc]
  obtain ⟨bl,hbl⟩:∃ bl,bl=W.heap.size:=⟨_,rfl⟩
  rw [← hbl] at n_bl xl ⊢
  exact hs_0_1_2_3_9_12_ hq hp hc2 n_br (xr.below hb) n_bl xl
 ·rw [if_pos (by rfl)]
  refine wp_val (v:=.slice (some ⟨W.heap.size,0,none⟩) 3 3) (w':=W.alloc (.cells #[.string ByteArray.empty,.string ByteArray.empty,.string ByteArray.empty] 9)) (by kernel_rfl) ?_
  have hb:Below W.heap.size W (W.alloc (.cells #[.string ByteArray.empty,.string ByteArray.empty,.string ByteArray.empty] 9)):=belA bR
  have n_bn:V.heap.size≤W.heap.size:=hc.hS.size
  have hc2:=hc.bel hb
  refine hK.out _ _ hc2.hS (fun hH=>?_)
  try simp only [Act.put,List.setIfInBounds_toArray,pb,pc]
  obtain ⟨bn,hbn⟩:∃ bn,bn=W.heap.size:=⟨_,rfl⟩
  rw [← hbn] at n_bn  ⊢
  exact hs_0_1_2_4_9_12_ hq hp hc2 n_br (xr.below hb) n_bn
 ·rw [if_pos (by rfl)]
  refine wp_val (v:=.slice (some ⟨W.heap.size,0,none⟩) 4 4) (w':=W.alloc (.cells (pC hv0++pC hv1++pC (hv2 bq)++pC hv3).toArray 118)) (by kernel_rfl) ?_
  have hb:Below W.heap.size W (W.alloc (.cells (pC hv0++pC hv1++pC (hv2 bq)++pC hv3).toArray 118)):=belA bR
  have n_bp:V.heap.size≤W.heap.size:=hc.hS.size
  have xp:At (W.alloc (.cells (pC hv0++pC hv1++pC (hv2 bq)++pC hv3).toArray 118)) W.heap.size (.cells (pC hv0++pC hv1++pC (hv2 bq)++pC hv3).toArray 118):=At.new _ _
  have hc2:=hc.bel hb
  refine hK.out _ _ hc2.hS (fun hH=>?_)
  try simp only [Act.put,List.setIfInBounds_toArray,pb,pc]
  obtain ⟨bp,hbp⟩:∃ bp,bp=W.heap.size:=⟨_,rfl⟩
  rw [← hbp] at n_bp xp ⊢
  exact hs_0_1_2_9_12_15_ hq hp hc2 n_br (xr.below hb) n_bp xp
theorem hs_0_1_2_3_9_ {Q:Exit→Act→World→Prop} (hq:CalmP Q) {V W:World} {b0 b1 bq:Nat} (hp:HPo Q V b0 b1 bq) (hc:HC V W b0 b1 bq) {br:Nat} (n_br:V.heap.size≤br) (xr:At W br (Fv.o ⟨1,false,0,0,none,0,0⟩)) {bl:Nat} (n_bl:V.heap.size≤bl) (xl:At W bl (.cells #[.int .u8 1,.bool false,.int .i64 0,.int .i64 0,.slice none 0 0,.int .u8 1,.bool false,.int .i64 0,.int .i64 0,.slice none 0 0,.int .u8 4,.bool true,.int .i64 (-1),.int .i64 0,.slice (some ⟨br,0,none⟩) 1 1] 43)) :
  wpAnyH Tryz.prog .any handOps Q (fun W=>But b0 V W) 8 #[true,true,true,true,false,true,true,true,true,true,true,true,false,false,true,false,false,false,false,false] ⟨#[.pointer (some ⟨b0,0,none⟩),.pointer (some ⟨b1,0,none⟩),.slice (some ⟨bq,0,none⟩) 1 1,plV 2 (some ⟨bq,0,none⟩) 1 1,tyV 1 false 0 0 none 0 0,tyV 1 false 0 0 none 0 0,tyV 4 true (-1) 0 (some ⟨br,0,none⟩) 1 1,.slice (some ⟨bl,0,none⟩) 3 3,undef,plV 2 none 0 0,plV 1 none 0 0,.agg (pC hv0).toArray,plV 1 none 0 0,.agg #[.int .u8 1,.int .i64 2,.int .i64 0,.slice none 0 0],.agg (pC hv1).toArray,plV 2 (some ⟨bq,0,none⟩) 1 1,undef,undef,.agg (pC hv3).toArray,undef,undef,undef,undef],[]⟩ W:=by
 refine aRd [4,12] ?_
 refine AllReadyH.cons (o:={ dst:=some 8,op:=.makeSlice 70 (.const (.int .i64 3)) (.const (.int .i64 3)),type:=70,pos := "law.go:22",after:=_,guard:=none }) rfl (fun K hK=>?_) (AllReadyH.cons rfl (fun K hK=>?_) (AllReadyH.nil))
 ·rw [if_pos (by rfl)]
  refine wp_val (v:=.slice (some ⟨W.heap.size,0,none⟩) 3 3) (w':=W.alloc (.cells #[.string ByteArray.empty,.string ByteArray.empty,.string ByteArray.empty] 9)) (by kernel_rfl) ?_
  have hb:Below W.heap.size W (W.alloc (.cells #[.string ByteArray.empty,.string ByteArray.empty,.string ByteArray.empty] 9)):=belA bR
  have n_bn:V.heap.size≤W.heap.size:=hc.hS.size
  have hc2:=hc.bel hb
  refine hK.out _ _ hc2.hS (fun hH=>?_)
  try simp only [Act.put,List.setIfInBounds_toArray,pb,pc]
  obtain ⟨bn,hbn⟩:∃ bn,bn=W.heap.size:=⟨_,rfl⟩
  rw [← hbn] at n_bn  ⊢
  exact hs_0_1_2_3_4_9_ hq hp hc2 n_br (xr.below hb) n_bl (xl.below hb) n_bn
 ·go_simp
  refine (con_any W 3).mono ?_
  rintro e W2 ⟨rfl,hb⟩
  go_wp2_with fail
  have hc2:=hc.bel hb
  refine hK.out _ _ hc2.hS (fun hH=>?_)
  try simp only [Act.put,List.setIfInBounds_toArray,pb,pc]
  refine tq 13 17 (.agg (pC (hv2 bq)).toArray) hq rfl rfl (fun W hSw=>by kernel_rfl) hH ?_
  simp only [pb,pc]
  exact hs_0_1_2_3_9_12_ hq hp hc2 n_br (xr.below hb) n_bl (xl.below hb)
theorem hs_0_1_2_4_9_ {Q:Exit→Act→World→Prop} (hq:CalmP Q) {V W:World} {b0 b1 bq:Nat} (hp:HPo Q V b0 b1 bq) (hc:HC V W b0 b1 bq) {br:Nat} (n_br:V.heap.size≤br) (xr:At W br (Fv.o ⟨1,false,0,0,none,0,0⟩)) {bn:Nat} (n_bn:V.heap.size≤bn) :
  wpAnyH Tryz.prog .any handOps Q (fun W=>But b0 V W) 8 #[true,true,true,false,true,true,true,true,true,true,true,true,false,false,true,false,false,false,false,false] ⟨#[.pointer (some ⟨b0,0,none⟩),.pointer (some ⟨b1,0,none⟩),.slice (some ⟨bq,0,none⟩) 1 1,plV 2 (some ⟨bq,0,none⟩) 1 1,tyV 1 false 0 0 none 0 0,tyV 1 false 0 0 none 0 0,tyV 4 true (-1) 0 (some ⟨br,0,none⟩) 1 1,undef,.slice (some ⟨bn,0,none⟩) 3 3,plV 2 none 0 0,plV 1 none 0 0,.agg (pC hv0).toArray,plV 1 none 0 0,.agg #[.int .u8 1,.int .i64 2,.int .i64 0,.slice none 0 0],.agg (pC hv1).toArray,plV 2 (some ⟨bq,0,none⟩) 1 1,undef,undef,.agg (pC hv3).toArray,undef,undef,undef,undef],[]⟩ W:=by
 refine aRd [3,12] ?_
 refine AllReadyH.cons (o:={ dst:=some 7,op:=.buildSlice 41 3 #[(0,.tmp 4),(1,.tmp 5),(2,.tmp 6)],type:=41,pos := "law.go:22",after:=_,guard:=none }) rfl (fun K hK=>?_) (AllReadyH.cons rfl (fun K hK=>?_) (AllReadyH.nil))
 ·rw [if_pos (by rfl)]
  refine wp_val (v:=.slice (some ⟨W.heap.size,0,none⟩) 3 3) (w':=W.alloc (.cells #[.int .u8 1,.bool false,.int .i64 0,.int .i64 0,.slice none 0 0,.int .u8 1,.bool false,.int .i64 0,.int .i64 0,.slice none 0 0,.int .u8 4,.bool true,.int .i64 (-1),.int .i64 0,.slice (some ⟨br,0,none⟩) 1 1] 43)) (by kernel_rfl) ?_
  have hb:Below W.heap.size W (W.alloc (.cells #[.int .u8 1,.bool false,.int .i64 0,.int .i64 0,.slice none 0 0,.int .u8 1,.bool false,.int .i64 0,.int .i64 0,.slice none 0 0,.int .u8 4,.bool true,.int .i64 (-1),.int .i64 0,.slice (some ⟨br,0,none⟩) 1 1] 43)):=belA bR
  have n_bl:V.heap.size≤W.heap.size:=hc.hS.size
  have xl:At (W.alloc (.cells #[.int .u8 1,.bool false,.int .i64 0,.int .i64 0,.slice none 0 0,.int .u8 1,.bool false,.int .i64 0,.int .i64 0,.slice none 0 0,.int .u8 4,.bool true,.int .i64 (-1),.int .i64 0,.slice (some ⟨br,0,none⟩) 1 1] 43)) W.heap.size (.cells #[.int .u8 1,.bool false,.int .i64 0,.int .i64 0,.slice none 0 0,.int .u8 1,.bool false,.int .i64 0,.int .i64 0,.slice none 0 0,.int .u8 4,.bool true,.int .i64 (-1),.int .i64 0,.slice (some ⟨br,0,none⟩) 1 1] 43):=At.new _ _
  have hc2:=hc.bel hb
  refine hK.out _ _ hc2.hS (fun hH=>?_)
  try simp only [Act.put,List.setIfInBounds_toArray,pb,pc]
  obtain ⟨bl,hbl⟩:∃ bl,bl=W.heap.size:=⟨_,rfl⟩
  rw [← hbl] at n_bl xl ⊢
  exact hs_0_1_2_3_4_9_ hq hp hc2 n_br (xr.below hb) n_bl xl n_bn
 ·go_simp
  refine (con_any W 3).mono ?_
  rintro e W2 ⟨rfl,hb⟩
  go_wp2_with fail
  have hc2:=hc.bel hb
  refine hK.out _ _ hc2.hS (fun hH=>?_)
  try simp only [Act.put,List.setIfInBounds_toArray,pb,pc]
  refine tq 13 17 (.agg (pC (hv2 bq)).toArray) hq rfl rfl (fun W hSw=>by kernel_rfl) hH ?_
  simp only [pb,pc]
  exact hs_0_1_2_4_9_12_ hq hp hc2 n_br (xr.below hb) n_bn
theorem hs_0_1_2_3_4_ {Q:Exit→Act→World→Prop} (hq:CalmP Q) {V W:World} {b0 b1 bq:Nat} (hp:HPo Q V b0 b1 bq) (hc:HC V W b0 b1 bq) {br:Nat} (n_br:V.heap.size≤br) (xr:At W br (Fv.o ⟨1,false,0,0,none,0,0⟩)) {bl:Nat} (n_bl:V.heap.size≤bl) (xl:At W bl (.cells #[.int .u8 1,.bool false,.int .i64 0,.int .i64 0,.slice none 0 0,.int .u8 1,.bool false,.int .i64 0,.int .i64 0,.slice none 0 0,.int .u8 4,.bool true,.int .i64 (-1),.int .i64 0,.slice (some ⟨br,0,none⟩) 1 1] 43)) {bn:Nat} (n_bn:V.heap.size≤bn) :
  wpAnyH Tryz.prog .any handOps Q (fun W=>But b0 V W) 9 #[true,true,true,true,true,true,true,true,true,false,false,true,false,false,true,false,false,false,false,false] ⟨#[.pointer (some ⟨b0,0,none⟩),.pointer (some ⟨b1,0,none⟩),.slice (some ⟨bq,0,none⟩) 1 1,plV 2 (some ⟨bq,0,none⟩) 1 1,tyV 1 false 0 0 none 0 0,tyV 1 false 0 0 none 0 0,tyV 4 true (-1) 0 (some ⟨br,0,none⟩) 1 1,.slice (some ⟨bl,0,none⟩) 3 3,.slice (some ⟨bn,0,none⟩) 3 3,plV 2 none 0 0,plV 1 none 0 0,.agg (pC hv0).toArray,plV 1 none 0 0,undef,undef,plV 2 (some ⟨bq,0,none⟩) 1 1,undef,undef,.agg (pC hv3).toArray,undef,undef,undef,undef],[]⟩ W:=by
 refine aRd [9] ?_
 refine AllReadyH.cons rfl (fun K hK=>?_) (AllReadyH.nil)
 ·go_simp
  refine (con_any W 2).mono ?_
  rintro e W2 ⟨rfl,hb⟩
  go_wp2_with fail
  have hc2:=hc.bel hb
  refine hK.out _ _ hc2.hS (fun hH=>?_)
  try simp only [Act.put,List.setIfInBounds_toArray,pb,pc]
  refine tq 10 14 (.agg (pC hv1).toArray) hq rfl rfl (fun W hSw=>by kernel_rfl) hH ?_
  simp only [pb,pc]
  exact hs_0_1_2_3_4_9_ hq hp hc2 n_br (xr.below hb) n_bl (xl.below hb) n_bn
theorem hs_0_1_2_9_ {Q:Exit→Act→World→Prop} (hq:CalmP Q) {V W:World} {b0 b1 bq:Nat} (hp:HPo Q V b0 b1 bq) (hc:HC V W b0 b1 bq) {br:Nat} (n_br:V.heap.size≤br) (xr:At W br (Fv.o ⟨1,false,0,0,none,0,0⟩)) :
  wpAnyH Tryz.prog .any handOps Q (fun W=>But b0 V W) 9 #[true,true,true,false,false,true,true,true,true,true,true,true,false,false,true,false,false,false,false,false] ⟨#[.pointer (some ⟨b0,0,none⟩),.pointer (some ⟨b1,0,none⟩),.slice (some ⟨bq,0,none⟩) 1 1,plV 2 (some ⟨bq,0,none⟩) 1 1,tyV 1 false 0 0 none 0 0,tyV 1 false 0 0 none 0 0,tyV 4 true (-1) 0 (some ⟨br,0,none⟩) 1 1,undef,undef,plV 2 none 0 0,plV 1 none 0 0,.agg (pC hv0).toArray,plV 1 none 0 0,.agg #[.int .u8 1,.int .i64 2,.int .i64 0,.slice none 0 0],.agg (pC hv1).toArray,plV 2 (some ⟨bq,0,none⟩) 1 1,undef,undef,.agg (pC hv3).toArray,undef,undef,undef,undef],[]⟩ W:=by
 refine aRd [3,4,12] ?_
 refine AllReadyH.cons (o:={ dst:=some 7,op:=.buildSlice 41 3 #[(0,.tmp 4),(1,.tmp 5),(2,.tmp 6)],type:=41,pos := "law.go:22",after:=_,guard:=none }) rfl (fun K hK=>?_) (AllReadyH.cons (o:={ dst:=some 8,op:=.makeSlice 70 (.const (.int .i64 3)) (.const (.int .i64 3)),type:=70,pos := "law.go:22",after:=_,guard:=none }) rfl (fun K hK=>?_) (AllReadyH.cons rfl (fun K hK=>?_) (AllReadyH.nil)))
 ·rw [if_pos (by rfl)]
  refine wp_val (v:=.slice (some ⟨W.heap.size,0,none⟩) 3 3) (w':=W.alloc (.cells #[.int .u8 1,.bool false,.int .i64 0,.int .i64 0,.slice none 0 0,.int .u8 1,.bool false,.int .i64 0,.int .i64 0,.slice none 0 0,.int .u8 4,.bool true,.int .i64 (-1),.int .i64 0,.slice (some ⟨br,0,none⟩) 1 1] 43)) (by kernel_rfl) ?_
  have hb:Below W.heap.size W (W.alloc (.cells #[.int .u8 1,.bool false,.int .i64 0,.int .i64 0,.slice none 0 0,.int .u8 1,.bool false,.int .i64 0,.int .i64 0,.slice none 0 0,.int .u8 4,.bool true,.int .i64 (-1),.int .i64 0,.slice (some ⟨br,0,none⟩) 1 1] 43)):=belA bR
  have n_bl:V.heap.size≤W.heap.size:=hc.hS.size
  have xl:At (W.alloc (.cells #[.int .u8 1,.bool false,.int .i64 0,.int .i64 0,.slice none 0 0,.int .u8 1,.bool false,.int .i64 0,.int .i64 0,.slice none 0 0,.int .u8 4,.bool true,.int .i64 (-1),.int .i64 0,.slice (some ⟨br,0,none⟩) 1 1] 43)) W.heap.size (.cells #[.int .u8 1,.bool false,.int .i64 0,.int .i64 0,.slice none 0 0,.int .u8 1,.bool false,.int .i64 0,.int .i64 0,.slice none 0 0,.int .u8 4,.bool true,.int .i64 (-1),.int .i64 0,.slice (some ⟨br,0,none⟩) 1 1] 43):=At.new _ _
  have hc2:=hc.bel hb
  refine hK.out _ _ hc2.hS (fun hH=>?_)
  try simp only [Act.put,List.setIfInBounds_toArray,pb,pc]
  obtain ⟨bl,hbl⟩:∃ bl,bl=W.heap.size:=⟨_,rfl⟩
  rw [← hbl] at n_bl xl ⊢
  exact hs_0_1_2_3_9_ hq hp hc2 n_br (xr.below hb) n_bl xl
 ·rw [if_pos (by rfl)]
  refine wp_val (v:=.slice (some ⟨W.heap.size,0,none⟩) 3 3) (w':=W.alloc (.cells #[.string ByteArray.empty,.string ByteArray.empty,.string ByteArray.empty] 9)) (by kernel_rfl) ?_
  have hb:Below W.heap.size W (W.alloc (.cells #[.string ByteArray.empty,.string ByteArray.empty,.string ByteArray.empty] 9)):=belA bR
  have n_bn:V.heap.size≤W.heap.size:=hc.hS.size
  have hc2:=hc.bel hb
  refine hK.out _ _ hc2.hS (fun hH=>?_)
  try simp only [Act.put,List.setIfInBounds_toArray,pb,pc]
  obtain ⟨bn,hbn⟩:∃ bn,bn=W.heap.size:=⟨_,rfl⟩
  rw [← hbn] at n_bn  ⊢
  exact hs_0_1_2_4_9_ hq hp hc2 n_br (xr.below hb) n_bn
 ·go_simp
  refine (con_any W 3).mono ?_
  rintro e W2 ⟨rfl,hb⟩
  go_wp2_with fail
  have hc2:=hc.bel hb
  refine hK.out _ _ hc2.hS (fun hH=>?_)
  try simp only [Act.put,List.setIfInBounds_toArray,pb,pc]
  refine tq 13 17 (.agg (pC (hv2 bq)).toArray) hq rfl rfl (fun W hSw=>by kernel_rfl) hH ?_
  simp only [pb,pc]
  exact hs_0_1_2_9_12_ hq hp hc2 n_br (xr.below hb)
theorem hs_0_1_2_3_ {Q:Exit→Act→World→Prop} (hq:CalmP Q) {V W:World} {b0 b1 bq:Nat} (hp:HPo Q V b0 b1 bq) (hc:HC V W b0 b1 bq) {br:Nat} (n_br:V.heap.size≤br) (xr:At W br (Fv.o ⟨1,false,0,0,none,0,0⟩)) {bl:Nat} (n_bl:V.heap.size≤bl) (xl:At W bl (.cells #[.int .u8 1,.bool false,.int .i64 0,.int .i64 0,.slice none 0 0,.int .u8 1,.bool false,.int .i64 0,.int .i64 0,.slice none 0 0,.int .u8 4,.bool true,.int .i64 (-1),.int .i64 0,.slice (some ⟨br,0,none⟩) 1 1] 43)) :
  wpAnyH Tryz.prog .any handOps Q (fun W=>But b0 V W) 10 #[true,true,true,true,false,true,true,true,true,false,false,true,false,false,true,false,false,false,false,false] ⟨#[.pointer (some ⟨b0,0,none⟩),.pointer (some ⟨b1,0,none⟩),.slice (some ⟨bq,0,none⟩) 1 1,plV 2 (some ⟨bq,0,none⟩) 1 1,tyV 1 false 0 0 none 0 0,tyV 1 false 0 0 none 0 0,tyV 4 true (-1) 0 (some ⟨br,0,none⟩) 1 1,.slice (some ⟨bl,0,none⟩) 3 3,undef,plV 2 none 0 0,plV 1 none 0 0,.agg (pC hv0).toArray,plV 1 none 0 0,undef,undef,plV 2 (some ⟨bq,0,none⟩) 1 1,undef,undef,.agg (pC hv3).toArray,undef,undef,undef,undef],[]⟩ W:=by
 refine aRd [4,9] ?_
 refine AllReadyH.cons (o:={ dst:=some 8,op:=.makeSlice 70 (.const (.int .i64 3)) (.const (.int .i64 3)),type:=70,pos := "law.go:22",after:=_,guard:=none }) rfl (fun K hK=>?_) (AllReadyH.cons rfl (fun K hK=>?_) (AllReadyH.nil))
 ·rw [if_pos (by rfl)]
  refine wp_val (v:=.slice (some ⟨W.heap.size,0,none⟩) 3 3) (w':=W.alloc (.cells #[.string ByteArray.empty,.string ByteArray.empty,.string ByteArray.empty] 9)) (by kernel_rfl) ?_
  have hb:Below W.heap.size W (W.alloc (.cells #[.string ByteArray.empty,.string ByteArray.empty,.string ByteArray.empty] 9)):=belA bR
  have n_bn:V.heap.size≤W.heap.size:=hc.hS.size
  have hc2:=hc.bel hb
  refine hK.out _ _ hc2.hS (fun hH=>?_)
  try simp only [Act.put,List.setIfInBounds_toArray,pb,pc]
  obtain ⟨bn,hbn⟩:∃ bn,bn=W.heap.size:=⟨_,rfl⟩
  rw [← hbn] at n_bn  ⊢
  exact hs_0_1_2_3_4_ hq hp hc2 n_br (xr.below hb) n_bl (xl.below hb) n_bn
 ·go_simp
  refine (con_any W 2).mono ?_
  rintro e W2 ⟨rfl,hb⟩
  go_wp2_with fail
  have hc2:=hc.bel hb
  refine hK.out _ _ hc2.hS (fun hH=>?_)
  try simp only [Act.put,List.setIfInBounds_toArray,pb,pc]
  refine tq 10 14 (.agg (pC hv1).toArray) hq rfl rfl (fun W hSw=>by kernel_rfl) hH ?_
  simp only [pb,pc]
  exact hs_0_1_2_3_9_ hq hp hc2 n_br (xr.below hb) n_bl (xl.below hb)
theorem hs_0_1_2_4_ {Q:Exit→Act→World→Prop} (hq:CalmP Q) {V W:World} {b0 b1 bq:Nat} (hp:HPo Q V b0 b1 bq) (hc:HC V W b0 b1 bq) {br:Nat} (n_br:V.heap.size≤br) (xr:At W br (Fv.o ⟨1,false,0,0,none,0,0⟩)) {bn:Nat} (n_bn:V.heap.size≤bn) :
  wpAnyH Tryz.prog .any handOps Q (fun W=>But b0 V W) 10 #[true,true,true,false,true,true,true,true,true,false,false,true,false,false,true,false,false,false,false,false] ⟨#[.pointer (some ⟨b0,0,none⟩),.pointer (some ⟨b1,0,none⟩),.slice (some ⟨bq,0,none⟩) 1 1,plV 2 (some ⟨bq,0,none⟩) 1 1,tyV 1 false 0 0 none 0 0,tyV 1 false 0 0 none 0 0,tyV 4 true (-1) 0 (some ⟨br,0,none⟩) 1 1,undef,.slice (some ⟨bn,0,none⟩) 3 3,plV 2 none 0 0,plV 1 none 0 0,.agg (pC hv0).toArray,plV 1 none 0 0,undef,undef,plV 2 (some ⟨bq,0,none⟩) 1 1,undef,undef,.agg (pC hv3).toArray,undef,undef,undef,undef],[]⟩ W:=by
 refine aRd [3,9] ?_
 refine AllReadyH.cons (o:={ dst:=some 7,op:=.buildSlice 41 3 #[(0,.tmp 4),(1,.tmp 5),(2,.tmp 6)],type:=41,pos := "law.go:22",after:=_,guard:=none }) rfl (fun K hK=>?_) (AllReadyH.cons rfl (fun K hK=>?_) (AllReadyH.nil))
 ·rw [if_pos (by rfl)]
  refine wp_val (v:=.slice (some ⟨W.heap.size,0,none⟩) 3 3) (w':=W.alloc (.cells #[.int .u8 1,.bool false,.int .i64 0,.int .i64 0,.slice none 0 0,.int .u8 1,.bool false,.int .i64 0,.int .i64 0,.slice none 0 0,.int .u8 4,.bool true,.int .i64 (-1),.int .i64 0,.slice (some ⟨br,0,none⟩) 1 1] 43)) (by kernel_rfl) ?_
  have hb:Below W.heap.size W (W.alloc (.cells #[.int .u8 1,.bool false,.int .i64 0,.int .i64 0,.slice none 0 0,.int .u8 1,.bool false,.int .i64 0,.int .i64 0,.slice none 0 0,.int .u8 4,.bool true,.int .i64 (-1),.int .i64 0,.slice (some ⟨br,0,none⟩) 1 1] 43)):=belA bR
  have n_bl:V.heap.size≤W.heap.size:=hc.hS.size
  have xl:At (W.alloc (.cells #[.int .u8 1,.bool false,.int .i64 0,.int .i64 0,.slice none 0 0,.int .u8 1,.bool false,.int .i64 0,.int .i64 0,.slice none 0 0,.int .u8 4,.bool true,.int .i64 (-1),.int .i64 0,.slice (some ⟨br,0,none⟩) 1 1] 43)) W.heap.size (.cells #[.int .u8 1,.bool false,.int .i64 0,.int .i64 0,.slice none 0 0,.int .u8 1,.bool false,.int .i64 0,.int .i64 0,.slice none 0 0,.int .u8 4,.bool true,.int .i64 (-1),.int .i64 0,.slice (some ⟨br,0,none⟩) 1 1] 43):=At.new _ _
  have hc2:=hc.bel hb
  refine hK.out _ _ hc2.hS (fun hH=>?_)
  try simp only [Act.put,List.setIfInBounds_toArray,pb,pc]
  obtain ⟨bl,hbl⟩:∃ bl,bl=W.heap.size:=⟨_,rfl⟩
  rw [← hbl] at n_bl xl ⊢
  exact hs_0_1_2_3_4_ hq hp hc2 n_br (xr.below hb) n_bl xl n_bn
 ·go_simp
  refine (con_any W 2).mono ?_
  rintro e W2 ⟨rfl,hb⟩
  go_wp2_with fail
  have hc2:=hc.bel hb
  refine hK.out _ _ hc2.hS (fun hH=>?_)
  try simp only [Act.put,List.setIfInBounds_toArray,pb,pc]
  refine tq 10 14 (.agg (pC hv1).toArray) hq rfl rfl (fun W hSw=>by kernel_rfl) hH ?_
  simp only [pb,pc]
  exact hs_0_1_2_4_9_ hq hp hc2 n_br (xr.below hb) n_bn
theorem hs_0_1_2_ {Q:Exit→Act→World→Prop} (hq:CalmP Q) {V W:World} {b0 b1 bq:Nat} (hp:HPo Q V b0 b1 bq) (hc:HC V W b0 b1 bq) {br:Nat} (n_br:V.heap.size≤br) (xr:At W br (Fv.o ⟨1,false,0,0,none,0,0⟩)) :
  wpAnyH Tryz.prog .any handOps Q (fun W=>But b0 V W) 11 #[true,true,true,false,false,true,true,true,true,false,false,true,false,false,true,false,false,false,false,false] ⟨#[.pointer (some ⟨b0,0,none⟩),.pointer (some ⟨b1,0,none⟩),.slice (some ⟨bq,0,none⟩) 1 1,plV 2 (some ⟨bq,0,none⟩) 1 1,tyV 1 false 0 0 none 0 0,tyV 1 false 0 0 none 0 0,tyV 4 true (-1) 0 (some ⟨br,0,none⟩) 1 1,undef,undef,plV 2 none 0 0,plV 1 none 0 0,.agg (pC hv0).toArray,plV 1 none 0 0,undef,undef,plV 2 (some ⟨bq,0,none⟩) 1 1,undef,undef,.agg (pC hv3).toArray,undef,undef,undef,undef],[]⟩ W:=by
 refine aRd [3,4,9] ?_
 refine AllReadyH.cons (o:={ dst:=some 7,op:=.buildSlice 41 3 #[(0,.tmp 4),(1,.tmp 5),(2,.tmp 6)],type:=41,pos := "law.go:22",after:=_,guard:=none }) rfl (fun K hK=>?_) (AllReadyH.cons (o:={ dst:=some 8,op:=.makeSlice 70 (.const (.int .i64 3)) (.const (.int .i64 3)),type:=70,pos := "law.go:22",after:=_,guard:=none }) rfl (fun K hK=>?_) (AllReadyH.cons rfl (fun K hK=>?_) (AllReadyH.nil)))
 ·rw [if_pos (by rfl)]
  refine wp_val (v:=.slice (some ⟨W.heap.size,0,none⟩) 3 3) (w':=W.alloc (.cells #[.int .u8 1,.bool false,.int .i64 0,.int .i64 0,.slice none 0 0,.int .u8 1,.bool false,.int .i64 0,.int .i64 0,.slice none 0 0,.int .u8 4,.bool true,.int .i64 (-1),.int .i64 0,.slice (some ⟨br,0,none⟩) 1 1] 43)) (by kernel_rfl) ?_
  have hb:Below W.heap.size W (W.alloc (.cells #[.int .u8 1,.bool false,.int .i64 0,.int .i64 0,.slice none 0 0,.int .u8 1,.bool false,.int .i64 0,.int .i64 0,.slice none 0 0,.int .u8 4,.bool true,.int .i64 (-1),.int .i64 0,.slice (some ⟨br,0,none⟩) 1 1] 43)):=belA bR
  have n_bl:V.heap.size≤W.heap.size:=hc.hS.size
  have xl:At (W.alloc (.cells #[.int .u8 1,.bool false,.int .i64 0,.int .i64 0,.slice none 0 0,.int .u8 1,.bool false,.int .i64 0,.int .i64 0,.slice none 0 0,.int .u8 4,.bool true,.int .i64 (-1),.int .i64 0,.slice (some ⟨br,0,none⟩) 1 1] 43)) W.heap.size (.cells #[.int .u8 1,.bool false,.int .i64 0,.int .i64 0,.slice none 0 0,.int .u8 1,.bool false,.int .i64 0,.int .i64 0,.slice none 0 0,.int .u8 4,.bool true,.int .i64 (-1),.int .i64 0,.slice (some ⟨br,0,none⟩) 1 1] 43):=At.new _ _
  have hc2:=hc.bel hb
  refine hK.out _ _ hc2.hS (fun hH=>?_)
  try simp only [Act.put,List.setIfInBounds_toArray,pb,pc]
  obtain ⟨bl,hbl⟩:∃ bl,bl=W.heap.size:=⟨_,rfl⟩
  rw [← hbl] at n_bl xl ⊢
  exact hs_0_1_2_3_ hq hp hc2 n_br (xr.below hb) n_bl xl
 ·rw [if_pos (by rfl)]
  refine wp_val (v:=.slice (some ⟨W.heap.size,0,none⟩) 3 3) (w':=W.alloc (.cells #[.string ByteArray.empty,.string ByteArray.empty,.string ByteArray.empty] 9)) (by kernel_rfl) ?_
  have hb:Below W.heap.size W (W.alloc (.cells #[.string ByteArray.empty,.string ByteArray.empty,.string ByteArray.empty] 9)):=belA bR
  have n_bn:V.heap.size≤W.heap.size:=hc.hS.size
  have hc2:=hc.bel hb
  refine hK.out _ _ hc2.hS (fun hH=>?_)
  try simp only [Act.put,List.setIfInBounds_toArray,pb,pc]
  obtain ⟨bn,hbn⟩:∃ bn,bn=W.heap.size:=⟨_,rfl⟩
  rw [← hbn] at n_bn  ⊢
  exact hs_0_1_2_4_ hq hp hc2 n_br (xr.below hb) n_bn
 ·go_simp
  refine (con_any W 2).mono ?_
  rintro e W2 ⟨rfl,hb⟩
  go_wp2_with fail
  have hc2:=hc.bel hb
  refine hK.out _ _ hc2.hS (fun hH=>?_)
  try simp only [Act.put,List.setIfInBounds_toArray,pb,pc]
  refine tq 10 14 (.agg (pC hv1).toArray) hq rfl rfl (fun W hSw=>by kernel_rfl) hH ?_
  simp only [pb,pc]
  exact hs_0_1_2_9_ hq hp hc2 n_br (xr.below hb)
theorem hs_0_1_4_ {Q:Exit→Act→World→Prop} (hq:CalmP Q) {V W:World} {b0 b1 bq:Nat} (hp:HPo Q V b0 b1 bq) (hc:HC V W b0 b1 bq) {bn:Nat} (n_bn:V.heap.size≤bn) :
  wpAnyH Tryz.prog .any handOps Q (fun W=>But b0 V W) 11 #[true,true,false,false,true,true,true,true,true,false,false,true,false,false,true,false,false,false,false,false] ⟨#[.pointer (some ⟨b0,0,none⟩),.pointer (some ⟨b1,0,none⟩),.slice (some ⟨bq,0,none⟩) 1 1,plV 2 (some ⟨bq,0,none⟩) 1 1,tyV 1 false 0 0 none 0 0,tyV 1 false 0 0 none 0 0,undef,undef,.slice (some ⟨bn,0,none⟩) 3 3,plV 2 none 0 0,plV 1 none 0 0,.agg (pC hv0).toArray,plV 1 none 0 0,undef,undef,plV 2 (some ⟨bq,0,none⟩) 1 1,undef,undef,.agg (pC hv3).toArray,undef,undef,undef,undef],[]⟩ W:=by
 refine aRd [2] ?_
 refine AllReadyH.cons rfl (fun K hK=>?_) (AllReadyH.nil)
 ·go_simp
  refine (ref_any W true).mono ?_
  rintro e W2 ⟨br,rfl,xr,hbr,hb⟩
  have n_br:V.heap.size≤br:=Nat.le_trans hc.hS.size hbr
  go_wp2_with fail
  have hc2:=hc.bel hb
  refine hK.out _ _ hc2.hS (fun hH=>?_)
  try simp only [Act.put,List.setIfInBounds_toArray,pb,pc]
  exact hs_0_1_2_4_ hq hp hc2 n_br xr n_bn
theorem hs_0_1_ {Q:Exit→Act→World→Prop} (hq:CalmP Q) {V W:World} {b0 b1 bq:Nat} (hp:HPo Q V b0 b1 bq) (hc:HC V W b0 b1 bq) :
  wpAnyH Tryz.prog .any handOps Q (fun W=>But b0 V W) 12 #[true,true,false,false,false,true,true,true,true,false,false,true,false,false,true,false,false,false,false,false] ⟨#[.pointer (some ⟨b0,0,none⟩),.pointer (some ⟨b1,0,none⟩),.slice (some ⟨bq,0,none⟩) 1 1,plV 2 (some ⟨bq,0,none⟩) 1 1,tyV 1 false 0 0 none 0 0,tyV 1 false 0 0 none 0 0,undef,undef,undef,plV 2 none 0 0,plV 1 none 0 0,.agg (pC hv0).toArray,plV 1 none 0 0,undef,undef,plV 2 (some ⟨bq,0,none⟩) 1 1,undef,undef,.agg (pC hv3).toArray,undef,undef,undef,undef],[]⟩ W:=by
 refine aRd [2,4] ?_
 refine AllReadyH.cons rfl (fun K hK=>?_) (AllReadyH.cons (o:={ dst:=some 8,op:=.makeSlice 70 (.const (.int .i64 3)) (.const (.int .i64 3)),type:=70,pos := "law.go:22",after:=_,guard:=none }) rfl (fun K hK=>?_) (AllReadyH.nil))
 ·go_simp
  refine (ref_any W true).mono ?_
  rintro e W2 ⟨br,rfl,xr,hbr,hb⟩
  have n_br:V.heap.size≤br:=Nat.le_trans hc.hS.size hbr
  go_wp2_with fail
  have hc2:=hc.bel hb
  refine hK.out _ _ hc2.hS (fun hH=>?_)
  try simp only [Act.put,List.setIfInBounds_toArray,pb,pc]
  exact hs_0_1_2_ hq hp hc2 n_br xr
 ·rw [if_pos (by rfl)]
  refine wp_val (v:=.slice (some ⟨W.heap.size,0,none⟩) 3 3) (w':=W.alloc (.cells #[.string ByteArray.empty,.string ByteArray.empty,.string ByteArray.empty] 9)) (by kernel_rfl) ?_
  have hb:Below W.heap.size W (W.alloc (.cells #[.string ByteArray.empty,.string ByteArray.empty,.string ByteArray.empty] 9)):=belA bR
  have n_bn:V.heap.size≤W.heap.size:=hc.hS.size
  have hc2:=hc.bel hb
  refine hK.out _ _ hc2.hS (fun hH=>?_)
  try simp only [Act.put,List.setIfInBounds_toArray,pb,pc]
  obtain ⟨bn,hbn⟩:∃ bn,bn=W.heap.size:=⟨_,rfl⟩
  rw [← hbn] at n_bn  ⊢
  exact hs_0_1_4_ hq hp hc2 n_bn
theorem hs_0_4_ {Q:Exit→Act→World→Prop} (hq:CalmP Q) {V W:World} {b0 b1 bq:Nat} (hp:HPo Q V b0 b1 bq) (hc:HC V W b0 b1 bq) {bn:Nat} (n_bn:V.heap.size≤bn) :
  wpAnyH Tryz.prog .any handOps Q (fun W=>But b0 V W) 12 #[true,false,false,false,true,true,true,true,true,false,false,true,false,false,true,false,false,false,false,false] ⟨#[.pointer (some ⟨b0,0,none⟩),.pointer (some ⟨b1,0,none⟩),.slice (some ⟨bq,0,none⟩) 1 1,plV 2 (some ⟨bq,0,none⟩) 1 1,tyV 1 false 0 0 none 0 0,undef,undef,undef,.slice (some ⟨bn,0,none⟩) 3 3,plV 2 none 0 0,plV 1 none 0 0,.agg (pC hv0).toArray,plV 1 none 0 0,undef,undef,plV 2 (some ⟨bq,0,none⟩) 1 1,undef,undef,.agg (pC hv3).toArray,undef,undef,undef,undef],[]⟩ W:=by
 refine aRd [1] ?_
 refine AllReadyH.cons rfl (fun K hK=>?_) (AllReadyH.nil)
 ·go_simp
  refine (i64_any W).mono ?_
  rintro e W2 ⟨rfl,hb⟩
  go_wp2_with fail
  have hc2:=hc.bel hb
  refine hK.out _ _ hc2.hS (fun hH=>?_)
  try simp only [Act.put,List.setIfInBounds_toArray,pb,pc]
  exact hs_0_1_4_ hq hp hc2 n_bn
theorem hs_0_ {Q:Exit→Act→World→Prop} (hq:CalmP Q) {V W:World} {b0 b1 bq:Nat} (hp:HPo Q V b0 b1 bq) (hc:HC V W b0 b1 bq) :
  wpAnyH Tryz.prog .any handOps Q (fun W=>But b0 V W) 13 #[true,false,false,false,false,true,true,true,true,false,false,true,false,false,true,false,false,false,false,false] ⟨#[.pointer (some ⟨b0,0,none⟩),.pointer (some ⟨b1,0,none⟩),.slice (some ⟨bq,0,none⟩) 1 1,plV 2 (some ⟨bq,0,none⟩) 1 1,tyV 1 false 0 0 none 0 0,undef,undef,undef,undef,plV 2 none 0 0,plV 1 none 0 0,.agg (pC hv0).toArray,plV 1 none 0 0,undef,undef,plV 2 (some ⟨bq,0,none⟩) 1 1,undef,undef,.agg (pC hv3).toArray,undef,undef,undef,undef],[]⟩ W:=by
 refine aRd [1,4] ?_
 refine AllReadyH.cons rfl (fun K hK=>?_) (AllReadyH.cons (o:={ dst:=some 8,op:=.makeSlice 70 (.const (.int .i64 3)) (.const (.int .i64 3)),type:=70,pos := "law.go:22",after:=_,guard:=none }) rfl (fun K hK=>?_) (AllReadyH.nil))
 ·go_simp
  refine (i64_any W).mono ?_
  rintro e W2 ⟨rfl,hb⟩
  go_wp2_with fail
  have hc2:=hc.bel hb
  refine hK.out _ _ hc2.hS (fun hH=>?_)
  try simp only [Act.put,List.setIfInBounds_toArray,pb,pc]
  exact hs_0_1_ hq hp hc2
 ·rw [if_pos (by rfl)]
  refine wp_val (v:=.slice (some ⟨W.heap.size,0,none⟩) 3 3) (w':=W.alloc (.cells #[.string ByteArray.empty,.string ByteArray.empty,.string ByteArray.empty] 9)) (by kernel_rfl) ?_
  have hb:Below W.heap.size W (W.alloc (.cells #[.string ByteArray.empty,.string ByteArray.empty,.string ByteArray.empty] 9)):=belA bR
  have n_bn:V.heap.size≤W.heap.size:=hc.hS.size
  have hc2:=hc.bel hb
  refine hK.out _ _ hc2.hS (fun hH=>?_)
  try simp only [Act.put,List.setIfInBounds_toArray,pb,pc]
  obtain ⟨bn,hbn⟩:∃ bn,bn=W.heap.size:=⟨_,rfl⟩
  rw [← hbn] at n_bn  ⊢
  exact hs_0_4_ hq hp hc2 n_bn
theorem hs_4_ {Q:Exit→Act→World→Prop} (hq:CalmP Q) {V W:World} {b0 b1 bq:Nat} (hp:HPo Q V b0 b1 bq) (hc:HC V W b0 b1 bq) {bn:Nat} (n_bn:V.heap.size≤bn) :
  wpAnyH Tryz.prog .any handOps Q (fun W=>But b0 V W) 13 #[false,false,false,false,true,true,true,true,true,false,false,true,false,false,true,false,false,false,false,false] ⟨#[.pointer (some ⟨b0,0,none⟩),.pointer (some ⟨b1,0,none⟩),.slice (some ⟨bq,0,none⟩) 1 1,plV 2 (some ⟨bq,0,none⟩) 1 1,undef,undef,undef,undef,.slice (some ⟨bn,0,none⟩) 3 3,plV 2 none 0 0,plV 1 none 0 0,.agg (pC hv0).toArray,plV 1 none 0 0,undef,undef,plV 2 (some ⟨bq,0,none⟩) 1 1,undef,undef,.agg (pC hv3).toArray,undef,undef,undef,undef],[]⟩ W:=by
 refine aRd [0] ?_
 refine AllReadyH.cons rfl (fun K hK=>?_) (AllReadyH.nil)
 ·go_simp
  refine (i64_any W).mono ?_
  rintro e W2 ⟨rfl,hb⟩
  go_wp2_with fail
  have hc2:=hc.bel hb
  refine hK.out _ _ hc2.hS (fun hH=>?_)
  try simp only [Act.put,List.setIfInBounds_toArray,pb,pc]
  exact hs_0_4_ hq hp hc2 n_bn
theorem hs_ {Q:Exit→Act→World→Prop} (hq:CalmP Q) {V W:World} {b0 b1 bq:Nat} (hp:HPo Q V b0 b1 bq) (hc:HC V W b0 b1 bq) :
  wpAnyH Tryz.prog .any handOps Q (fun W=>But b0 V W) 14 #[false,false,false,false,false,true,true,true,true,false,false,true,false,false,true,false,false,false,false,false] ⟨#[.pointer (some ⟨b0,0,none⟩),.pointer (some ⟨b1,0,none⟩),.slice (some ⟨bq,0,none⟩) 1 1,plV 2 (some ⟨bq,0,none⟩) 1 1,undef,undef,undef,undef,undef,plV 2 none 0 0,plV 1 none 0 0,.agg (pC hv0).toArray,plV 1 none 0 0,undef,undef,plV 2 (some ⟨bq,0,none⟩) 1 1,undef,undef,.agg (pC hv3).toArray,undef,undef,undef,undef],[]⟩ W:=by
 refine aRd [0,4] ?_
 refine AllReadyH.cons rfl (fun K hK=>?_) (AllReadyH.cons (o:={ dst:=some 8,op:=.makeSlice 70 (.const (.int .i64 3)) (.const (.int .i64 3)),type:=70,pos := "law.go:22",after:=_,guard:=none }) rfl (fun K hK=>?_) (AllReadyH.nil))
 ·go_simp
  refine (i64_any W).mono ?_
  rintro e W2 ⟨rfl,hb⟩
  go_wp2_with fail
  have hc2:=hc.bel hb
  refine hK.out _ _ hc2.hS (fun hH=>?_)
  try simp only [Act.put,List.setIfInBounds_toArray,pb,pc]
  exact hs_0_ hq hp hc2
 ·rw [if_pos (by rfl)]
  refine wp_val (v:=.slice (some ⟨W.heap.size,0,none⟩) 3 3) (w':=W.alloc (.cells #[.string ByteArray.empty,.string ByteArray.empty,.string ByteArray.empty] 9)) (by kernel_rfl) ?_
  have hb:Below W.heap.size W (W.alloc (.cells #[.string ByteArray.empty,.string ByteArray.empty,.string ByteArray.empty] 9)):=belA bR
  have n_bn:V.heap.size≤W.heap.size:=hc.hS.size
  have hc2:=hc.bel hb
  refine hK.out _ _ hc2.hS (fun hH=>?_)
  try simp only [Act.put,List.setIfInBounds_toArray,pb,pc]
  obtain ⟨bn,hbn⟩:∃ bn,bn=W.heap.size:=⟨_,rfl⟩
  rw [← hbn] at n_bn  ⊢
  exact hs_4_ hq hp hc2 n_bn
theorem hand_any (w:World):Calls Tryz.prog 24 #[] w fun e w'=>∃ bu bl br bn bp bq,e=.returned (uV none 0 0 (some ⟨bu,0,none⟩) 1 1 0)∧HandAt w' bu bl br bn bp bq∧Below w.heap.size w w':=by
 obtain ⟨A0',AQ',A1'⟩:=three_new w (uO none 0 0 none 0 0 0) (.cells #[.int .i64 (-1)] 106) (plO 2 (some ⟨w.heap.size+1,0,none⟩) 1 1)
 have hB:Below w.heap.size w (((w.alloc (uO none 0 0 none 0 0 0)).alloc (.cells #[.int .i64 (-1)] 106)).alloc (plO 2 (some ⟨w.heap.size+1,0,none⟩) 1 1)):=belA (belA (belA bR))
 obtain ⟨V,hV⟩:∃ V,V=(((w.alloc (uO none 0 0 none 0 0 0)).alloc (.cells #[.int .i64 (-1)] 106)).alloc (plO 2 (some ⟨w.heap.size+1,0,none⟩) 1 1)):=⟨_,rfl⟩
 rw [← hV] at A0' AQ' A1' hB
 have HV:=jH hV
 have HB:=jH hB
 have H0:=jH A0'
 have HQ:=jH AQ'
 have H1:=jH A1'
 clear A0' AQ' A1' hB hV
 go_enter Tryz.func24,Tryz.ntmps24
 go_upto_region 2 with fail
 change Code.wp _ _ _ _ (((w.alloc (uO none 0 0 none 0 0 0)).alloc (.cells #[.int .i64 (-1)] 106)).alloc (plO 2 (some ⟨w.heap.size+1,0,none⟩) 1 1))
 rw [← HV.out]
 clear HV
 obtain ⟨b0,hb0⟩:∃ b0,b0=w.heap.size:=⟨_,rfl⟩
 obtain ⟨bq,hbq⟩:∃ bq,bq=w.heap.size+1:=⟨_,rfl⟩
 obtain ⟨b1,hb1⟩:∃ b1,b1=w.heap.size+1+1:=⟨_,rfl⟩
 have n10:b1≠b0:=by omega
 have nq0:bq≠b0:=by omega
 have HB0:=jH hb0
 rw [← hb1] at H1 ⊢
 rw [← hbq] at HQ H1 ⊢
 rw [← hb0] at H0 ⊢
 clear hb0 hbq hb1
 have hl0:=H0.out.lt
 refine beginH (S:=fun W=>But b0 V W) (fun _ _ _ _ _ h=>h) (by kernel_rfl) (But.below bR.drew) (fun hq hH=>?_)
 have hc:HC V V.drew b0 b1 bq:=⟨hH,H0.out.below bR.drew,HQ.out.below bR.drew,H1.out,n10,nq0,hl0⟩
 refine tq 5 9 (plV 2 none 0 0) hq rfl rfl (fun W hSw=>by kernel_rfl) hH ?_
 simp only [pb,pc]
 refine tq 6 10 (plV 1 none 0 0) hq rfl rfl (fun W hSw=>by kernel_rfl) hH ?_
 simp only [pb,pc]
 refine tq 7 11 (.agg (pC hv0).toArray) hq rfl rfl (fun W hSw=>by kernel_rfl) hH ?_
 simp only [pb,pc]
 refine tq 8 12 (plV 1 none 0 0) hq rfl rfl (fun W hSw=>by kernel_rfl) hH ?_
 simp only [pb,pc]
 refine tq 11 15 (plV 2 (some ⟨bq,0,none⟩) 1 1) hq rfl rfl (fun W hSw=>by (obtain ⟨x0,x1⟩:=(hc.h1.but hSw hc.n10).pl;go_simp;try rfl)) hH ?_
 simp only [pb,pc]
 refine tq 14 18 (.agg (pC hv3).toArray) hq rfl rfl (fun W hSw=>by kernel_rfl) hH ?_
 simp only [pb,pc]
 refine hs_ hq (fun bu bl br bn bp W k1 k2 k3=>?_) hc
 have hBW:Below w.heap.size w W:=HB.out.grown k1 HB.out.size (fun k e=>by cases e;have:=HB0.out;omega)
 clear hc hq hH
 go_wp2_with fail
 exact bodyPost_ret (results_u1 Tryz.results24 rfl k2) rfl ⟨bu,bl,br,bn,bp,bq,rfl,k3,hBW⟩
end Go.Proofs.YtmjenlogbkbgnaaGreatDoor
