import Derived.Test.YtmjenlogbkbgnaaGreatDoorB15
namespace Go.Proofs.YtmjenlogbkbgnaaGreatDoor
open Go.RowKit Go.Shelf
set_option linter.unusedVariables false
set_option linter.unusedSimpArgs false
set_option maxRecDepth 100000
set_option maxHeartbeats 8000000
structure TLs (w0 V:World) (B:Nat) (a:Option Addr) (n cap:Nat) (cs:List Ch) (fs:List Fv):Prop where
 l1:fs.length=cs.length
 l2:n=cs.length
 big:n≤1100000
 row:V.ownsRow B 43 5 (.slice a n cap) n (tCells fs)
 ty:∀ (k:Nat) (f:Fv) (c:Ch),fs[k]?=some f→cs[k]?=some c→TyAt w0 f c.ty
theorem TLs.bel {w0 V V':World} {B n cap:Nat} {a:Option Addr} {cs:List Ch} {fs:List Fv} (h:TLs w0 V B a n cap cs fs) (k:Below V.heap.size V V'):TLs w0 V' B a n cap cs fs:=⟨h.l1,h.l2,h.big,own_bel h.row k,h.ty⟩
theorem TLs.but {w0 V V':World} {B n cap b:Nat} {a:Option Addr} {cs:List Ch} {fs:List Fv} (h:TLs w0 V B a n cap cs fs) (k:But b V V') (hb:b<B):TLs w0 V' B a n cap cs fs :=
 ⟨h.l1,h.l2,h.big,own_grow h.row k (fun g hg e=>by have:=own_lo h.row g hg;cases e;omega),h.ty⟩
theorem TLs.lc {w0 V:World} {B n cap:Nat} {a:Option Addr} {cs:List Ch} {fs:List Fv} (h:TLs w0 V B a n cap cs fs) (k:Below w0.heap.size w0 V):LcAt V a n cap (cs.map Ch.ty):=by
 refine lc_of_row h.row (by rw [List.length_map];exact h.l2) (by rw [List.length_map];exact h.l1) (by have:=h.big;unfold maxLen;omega) (fun j f t hf ht=>?_)
 rw [List.getElem?_map,Option.map_eq_some_iff] at ht
 obtain ⟨c,hc,rfl⟩:=ht
 exact (h.ty j f c hf hc).bel k
def TlPost (R:Option (List Ch)) (w0 w':World) (B:Nat) (e:Ending):Prop:=match R with
 | some cs=>∃ a n cap fs,e=.returned (.tuple #[.slice a n cap,.bool true])∧TLs w0 w' B a n cap cs fs
 | none=>e=.returned (.tuple #[.slice none 0 0,.bool false])
structure TR (w0 w V:World) (x:Sc) (os:List Opd) (i:Nat) (v:Value) (fs:List Fv) (cs:List Ch):Prop where
 is:x.opsT (os.take i)=some cs
 l1:fs.length=cs.length
 l2:cs.length=i
 row:V.ownsRow w.heap.size 43 5 v i (tCells fs)
 ty:∀ (k:Nat) (f:Fv) (c:Ch),fs[k]?=some f→cs[k]?=some c→TyAt w0 f c.ty
 bel:Below w.heap.size w V
theorem TR.start (w0 w:World) (x:Sc) (os:List Opd):TR w0 w w x os 0 (.slice none 0 0) [] [] :=
 ⟨rfl,rfl,rfl,World.ownsRow_nil _ _ _ _,fun k f c h=>by simp at h,Below.refl _ _⟩
theorem TR.aft {w0 w V V':World} {x:Sc} {os:List Opd} {i:Nat} {v:Value} {fs:List Fv} {cs:List Ch} (h:TR w0 w V x os i v fs cs) (hb:Below V.heap.size V V'):TR w0 w V' x os i v fs cs :=
 ⟨h.is,h.l1,h.l2,own_bel h.row hb,h.ty,jB h.bel hb⟩
theorem TR.next {w0 w V V':World} {x:Sc} {os:List Opd} {i:Nat} {v v':Value} {fs:List Fv} {cs:List Ch} (h:TR w0 w V x os i v fs cs) {q:Opd} (hq:os[i]?=some q) {c:Ch} (hc:x.opT q=some c) {f:Fv} (hf:TyAt w0 f c.ty) (ho:V'.ownsRow w.heap.size 43 5 v' (i+1) (tCells fs++t5 f)) (hg:V.grownBy V' v.ownBlock):TR w0 w V' x os (i+1) v' (fs++[f]) (cs++[c]) where
 is:=by rw [List.take_add_one,hq];show x.opsT (os.take i++[q])=_;rw [opsT_snoc,h.is,hc];rfl
 l1:=by simp [h.l1]
 l2:=by simp [h.l2]
 row:=by rw [tCells_snoc];exact ho
 ty:=fun k f' c' hf' hc'=>by
  rcases Nat.lt_or_ge k fs.length with h1|h1
  ·rw [List.getElem?_append_left h1] at hf'
   rw [List.getElem?_append_left (by rw [← h.l1];exact h1)] at hc'
   exact h.ty k f' c' hf' hc'
  ·rw [List.getElem?_append_right h1] at hf'
   rw [List.getElem?_append_right (by rw [← h.l1];exact h1),← h.l1] at hc'
   cases hk:k - fs.length with
   | zero=>rw [hk] at hf' hc';simp at hf' hc';subst hf' hc';exact hf
   | succ j=>rw [hk] at hf';simp at hf'
 bel:=h.bel.grown hg h.bel.size (own_lo h.row)
theorem typesOf_any {w0 w:World} (hB0:Below w0.heap.size w0 w) {a la:Option Addr} {n cap ln lcap:Nat} {x:Sc} (hX:SX w0 a n cap la ln lcap x) (b:Nat) (hb:Scs w b a n cap la ln lcap) (oa:Option Addr) (on oc:Nat) (os:List Opd) (hO:OL w oa on oc os) :
  Calls Tryz.prog 194 #[.pointer (some ⟨b,0,none⟩),.slice oa on oc] w fun e w'=>TlPost (x.opsT os) w0 w' w.heap.size e∧Below w.heap.size w w':=by
 have HL:Hid (on=os.length):=hO.len
 have n0:(on:Int)≤1100000:=by have:=hO.big;omega
 have HO:=jH hO
 have HX:=jH hX
 have HB0:=jH hB0
 have HSc:=jH hb
 obtain ⟨i68,hi68,hz68,hs68,hb68⟩:=info_parts Tryz.info43
 clear hO hX hB0 hb
 go_enter Tryz.func194,Tryz.ntmps194
 go_wp2_with fail
 go_loopw [6,13] (fun v z V=>∃ (i:Nat) (fs:List Fv) (cs:List Ch),i≤on∧z=.int .i64 i∧TR w0 w V x os i v fs cs) (fun _ z _=>on - (intOf z).toNat)
 case atStart=>exact ⟨0,[],[],Nat.zero_le _,rfl,TR.start w0 w x os⟩
 case round =>
  obtain ⟨i,fs,cs,hi,rfl,hT⟩:=hrel
  have HT:=jH hT
  obtain ⟨av,cv,hv⟩:=own_sl hT.row
  subst hv
  clear hT
  by_cases hlt:i<on
  ·obtain ⟨q,hq⟩:∃ q,os[i]?=some q:=⟨_,List.getElem?_eq_getElem (by have:=HL.out;omega)⟩
   obtain ⟨g,off,v,ea,hg,⟨c0,c1,c2,c3⟩,hOA⟩:=(HO.out.bel HT.out.bel).one hq
   have ea2:oa=some ⟨g,off,none⟩:=ea
   subst ea2
   have i0:(0:Int)≤(i:Int):=by omega
   have i1:(i:Int)<(on:Int):=by omega
   have HQ:=jH hq
   have C:=jH (typeOf_any (jB HB0.out (belA HT.out.bel:Below w.heap.size w (wr.alloc (oO v.k v.n v.x.l v.x.a v.x.n v.x.cap)))) HX.out b (HSc.out.bel (belA HT.out.bel)) v q (hOA.bel (belA bR)))
   obtain ⟨k,nn,l,pa,m,pc⟩:=v
   have HLT:=jH hlt
   clear hq hOA ea hlt hi
   cases hR:x.opT q with
   | none =>
    have C2:Hid (Calls Tryz.prog 215 #[.pointer (some ⟨b,0,none⟩),oV k nn l pa m pc] (wr.alloc (oO k nn l pa m pc)) fun e w'=>(∃ f':Fv,e=.returned (.tuple #[f'.v,.bool false]))∧Below (wr.alloc (oO k nn l pa m pc)).heap.size (wr.alloc (oO k nn l pa m pc)) w'):=by
     have:=C.out
     show Calls _ _ _ _ _
     rw [hR] at this
     exact this
    have HN:Hid (x.opsT os=none):=opsT_none x (List.mem_of_getElem? HQ.out) hR
    clear C hR
    go_wp2_with (go_at_call 215;refine C2.out.mono ?_;rintro e w2 ⟨⟨⟨kk,mm,rr,ss,aa,nn',cc⟩,rfl⟩,hb2⟩;have HB2:=jH (jB HT.out.bel (below1 hb2));clear hb2)
    go_ret2
    refine ⟨?_,belA HB2.out⟩
    rw [HN.out]
    rfl
   | some c =>
    have C2:Hid (Calls Tryz.prog 215 #[.pointer (some ⟨b,0,none⟩),oV k nn l pa m pc] (wr.alloc (oO k nn l pa m pc)) fun e w'=>(∃ f':Fv,e=.returned (.tuple #[f'.v,.bool true])∧TyAt w0 f' c.ty)∧Below (wr.alloc (oO k nn l pa m pc)).heap.size (wr.alloc (oO k nn l pa m pc)) w'):=by
     have:=C.out
     show Calls _ _ _ _ _
     rw [hR] at this
     exact this
    have HR:=jH hR
    clear C hR
    go_wp2_with (first
     | (go_at_call 215;refine C2.out.mono ?_;rintro e w2 ⟨⟨⟨kk,mm,rr,ss,aa,nn',cc⟩,rfl,hf⟩,hb2⟩;have HF:=jH hf;have HT2:Hid (TR w0 w ((w2.alloc (tyO kk mm rr ss aa nn' cc)).alloc (tyO kk mm rr ss aa nn' cc)) x os i (.slice av i cv) fs cs):=jH (HT.out.aft (belA (belA (below1 hb2))));clear hb2 hf)
     | (at_builtin;refine wpList_append_own _ rfl (.tmp 25) (.tmp 27) 41 rfl w.heap.size 43 i68 (.agg #[.int .u8 0,.bool false,.int .i64 0,.int .i64 0,.slice none 0 0]) 5 48 Tryz.underlying41 hi68 hz68 hs68 hb68 rfl (by omega) (.slice av i cv) i (tCells fs) rfl HT2.out.row ⟨w2.heap.size+1,0,none⟩ 1 1 (t5 ⟨kk,mm,rr,ss,aa,nn',cc⟩) rfl rfl (c5_new (at_snd _ _ _)) (c5_ones _) (by unfold maxLen;omega) (by omega) HT2.out.bel.size ?_;intro v3 w3 ho3 hg3 hn3;have HN3:=jH (HT2.out.next HQ.out HR.out HF.out ho3 hg3);clear ho3 hg3 hn3))
    refine ⟨⟨i+1,fs++[⟨kk,mm,rr,ss,aa,nn',cc⟩],cs++[c],HLT.out,rfl,HN3.out⟩,?_⟩
    show on - ((i:Int)+1).toNat<on - (i:Int).toNat
    have:=HLT.out
    omega
  ·obtain rfl:i=on:=by omega
   have lt:¬ (i:Int)<(i:Int):=by omega
   clear hlt hi
   go_wp2_with fail
   go_ret2
   refine ⟨?_,HT.out.bel⟩
   have e0:x.opsT os=some cs:=by
    have:=HT.out.is
    rw [HL.out,List.take_length] at this
    exact this
   rw [e0]
   exact ⟨av,i,cv,fs,rfl,HT.out.l1,HT.out.l2.symm,by omega,HT.out.row,HT.out.ty⟩
structure Pv where
 op:Nat
 tp:Pt
 a:Ov
 b:Ov
 ra:Option Addr
 rn:Nat
 rc:Nat
 sg:ByteArray
 fp:Pt
 mu:Bool
 fn:Int
 st:Int
 nx:Int
 el:Int
 ps:Int
structure Scv where
 pv:Pv
 a:Option Addr
 n:Nat
 cap:Nat
 ua:Option Addr
 un:Nat
 ucap:Nat
 mn:Int
 nm:ByteArray
 lv:Int
 oa:Option Addr
 on:Nat
 oc:Nat
 pa:Int
 la:Option Addr
 ln:Nat
 lc:Nat
 na:Option Addr
 nn:Nat
 nc:Nat
 qa:Option Addr
 qn:Nat
 qc:Nat
 dr:Nat→Bool
 tw:Gy
 fw:Gy
 ta:Option Addr
 tn:Nat
 tc:Nat
structure ScS (w:World) (b:Nat) (s:Scv):Prop where
 th:w.there b 0 78
 lt:b<w.heap.size
 pt:PtC w b s.pv.op s.pv.tp.l s.pv.tp.a s.pv.tp.n s.pv.tp.cap s.pv.a.k s.pv.a.n s.pv.a.x.l s.pv.a.x.a s.pv.a.x.n s.pv.a.x.cap s.pv.b.k s.pv.b.n s.pv.b.x.l s.pv.b.x.a s.pv.b.x.n s.pv.b.x.cap s.pv.ra s.pv.rn s.pv.rc s.pv.sg s.pv.fp.l s.pv.fp.a s.pv.fp.n s.pv.fp.cap s.pv.mu s.pv.fn s.pv.st s.pv.nx s.pv.el s.pv.ps
 c21:w.cell? ⟨b,21,none⟩=some (.slice s.a s.n s.cap)
 c22:w.cell? ⟨b,22,none⟩=some (.slice s.ua s.un s.ucap)
 c23:w.cell? ⟨b,23,none⟩=some (.int .i64 s.mn)
 c24:w.cell? ⟨b,24,none⟩=some (.string s.nm)
 c25:w.cell? ⟨b,25,none⟩=some (.int .i64 s.lv)
 c26:w.cell? ⟨b,26,none⟩=some (.slice s.oa s.on s.oc)
 c27:w.cell? ⟨b,27,none⟩=some (.int .i64 s.pa)
 c28:w.cell? ⟨b,28,none⟩=some (.slice s.la s.ln s.lc)
 c29:w.cell? ⟨b,29,none⟩=some (.slice s.na s.nn s.nc)
 c30:w.cell? ⟨b,30,none⟩=some (.slice s.qa s.qn s.qc)
 dr:∀ i,i<32→w.cell? ⟨b,31+i,none⟩=some (.bool (s.dr i))
 tw:C5 w b 63 s.tw.f
 t68:w.cell? ⟨b,68,none⟩=some (.bool s.tw.br)
 t69:w.cell? ⟨b,69,none⟩=some (.bool s.tw.bs)
 fw:C5 w b 70 s.fw.f
 f75:w.cell? ⟨b,75,none⟩=some (.bool s.fw.br)
 f76:w.cell? ⟨b,76,none⟩=some (.bool s.fw.bs)
 c77:w.cell? ⟨b,77,none⟩=some (.slice s.ta s.tn s.tc)
theorem cells_bel {w w':World} {b:Nat} (hl:b<w.heap.size) (hb:Below w.heap.size w w') (o:Nat):w'.cell? ⟨b,o,none⟩=w.cell? ⟨b,o,none⟩:=by
 unfold World.cell?
 simp only [hb.block b hl]
theorem there_bel {w w':World} {b o n:Nat} (hl:b<w.heap.size) (hb:Below w.heap.size w w') (h:w.there b o n):w'.there b o n:=fun j hj=>by
 have h1:=h j hj
 refine ⟨by rw [cells_bel hl hb];exact h1.1,?_⟩
 have h2:=h1.2
 unfold World.frozen? at h2 ⊢
 simp only [hb.block b hl]
 exact h2
theorem there_sub {w:World} {b n o k:Nat} (h:w.there b 0 n) (hk:o+k≤n):w.there b o k:=fun j hj=>by
 have:=h (o+j) (by omega)
 rwa [Nat.zero_add] at this
theorem but_setCells (b:Nat):∀ (vs:List Value) (o:Nat) (w:World),But b w (w.setCells b o vs)
 | [],_,w=>But.refl b w
 | v::r,o,w=>((But.refl b w).set o v).trans (but_setCells b r (o+1) _)
theorem cell_setCells {w:World} {b:Nat} (o:Nat) (vs:List Value) (j:Nat) (h:j<o∨o+vs.length≤j):(w.setCells b o vs).cell? ⟨b,j,none⟩=w.cell? ⟨b,j,none⟩ :=
 World.cell?_setCells_out b vs o w ⟨b,j,none⟩ (fun _ _=>h)
theorem scs_map {w w':World} {b:Nat} {s:Scv} (h:ScS w b s) (lo hi:Nat) (hlo:63≤lo) (hk:∀ j,j<lo∨hi≤j→w'.cell? ⟨b,j,none⟩=w.cell? ⟨b,j,none⟩) (hl:b<w'.heap.size) :
  PtC w' b s.pv.op s.pv.tp.l s.pv.tp.a s.pv.tp.n s.pv.tp.cap s.pv.a.k s.pv.a.n s.pv.a.x.l s.pv.a.x.a s.pv.a.x.n s.pv.a.x.cap s.pv.b.k s.pv.b.n s.pv.b.x.l s.pv.b.x.a s.pv.b.x.n s.pv.b.x.cap s.pv.ra s.pv.rn s.pv.rc s.pv.sg s.pv.fp.l s.pv.fp.a s.pv.fp.n s.pv.fp.cap s.pv.mu s.pv.fn s.pv.st s.pv.nx s.pv.el s.pv.ps∧(∀ j,j<63→w'.cell? ⟨b,j,none⟩=w.cell? ⟨b,j,none⟩):=by
 obtain ⟨-,c0,c1,c2,c3,c4,c5,c6,c7,c8,c9,c10,c11,c12,c13,c14,c15,c16,c17,c18,c19,c20⟩:=h.pt
 have k:∀ j,j<63→w'.cell? ⟨b,j,none⟩=w.cell? ⟨b,j,none⟩:=fun j hj=>hk j (by omega)
 exact ⟨⟨hl,(k 0 (by omega)).trans c0,(k 1 (by omega)).trans c1,(k 2 (by omega)).trans c2,(k 3 (by omega)).trans c3,(k 4 (by omega)).trans c4,(k 5 (by omega)).trans c5,(k 6 (by omega)).trans c6,(k 7 (by omega)).trans c7,(k 8 (by omega)).trans c8,(k 9 (by omega)).trans c9,(k 10 (by omega)).trans c10,(k 11 (by omega)).trans c11,(k 12 (by omega)).trans c12,(k 13 (by omega)).trans c13,(k 14 (by omega)).trans c14,(k 15 (by omega)).trans c15,(k 16 (by omega)).trans c16,(k 17 (by omega)).trans c17,(k 18 (by omega)).trans c18,(k 19 (by omega)).trans c19,(k 20 (by omega)).trans c20⟩,k⟩
theorem ScS.bel {w w':World} {b:Nat} {s:Scv} (h:ScS w b s) (hb:Below w.heap.size w w'):ScS w' b s where
 th:=there_bel h.lt hb h.th
 lt:=Nat.lt_of_lt_of_le h.lt hb.size
 pt:=h.pt.bel hb
 c21:=(cells_bel h.lt hb _).trans h.c21
 c22:=(cells_bel h.lt hb _).trans h.c22
 c23:=(cells_bel h.lt hb _).trans h.c23
 c24:=(cells_bel h.lt hb _).trans h.c24
 c25:=(cells_bel h.lt hb _).trans h.c25
 c26:=(cells_bel h.lt hb _).trans h.c26
 c27:=(cells_bel h.lt hb _).trans h.c27
 c28:=(cells_bel h.lt hb _).trans h.c28
 c29:=(cells_bel h.lt hb _).trans h.c29
 c30:=(cells_bel h.lt hb _).trans h.c30
 dr:=fun i hi=>(cells_bel h.lt hb _).trans (h.dr i hi)
 tw:=h.tw.below hb
 t68:=(cells_bel h.lt hb _).trans h.t68
 t69:=(cells_bel h.lt hb _).trans h.t69
 fw:=h.fw.below hb
 f75:=(cells_bel h.lt hb _).trans h.f75
 f76:=(cells_bel h.lt hb _).trans h.f76
 c77:=(cells_bel h.lt hb _).trans h.c77
def g7 (z:Gy):List Value:=[.int .u8 (z.f.k:Int),.bool z.f.m,.int .i64 z.f.r,.int .i64 z.f.s,.slice z.f.a z.f.n z.f.cap,.bool z.br,.bool z.bs]
theorem g7_ones (z:Gy):∀ u∈g7 z,u.oneCell'=true:=fun u hu=>by
 simp only [g7,List.mem_cons,List.not_mem_nil,or_false] at hu
 rcases hu with rfl|rfl|rfl|rfl|rfl|rfl|rfl <;> rfl
theorem rng_c5 {w:World} {b o:Nat} {z:Gy} (h:w.rangeAt b o (g7 z)) (hl:b<w.heap.size):C5 w b o z.f∧w.cell? ⟨b,o+5,none⟩=some (.bool z.br)∧w.cell? ⟨b,o+6,none⟩=some (.bool z.bs) :=
 ⟨⟨hl,h 0 _ rfl,h 1 _ rfl,h 2 _ rfl,h 3 _ rfl,h 4 _ rfl⟩,h 5 _ rfl,h 6 _ rfl⟩
theorem ScS.setTo {w w':World} {b:Nat} {s:Scv} (h:ScS w b s) (z:Gy) (hr:w'.rangeAt b 63 (g7 z)) (hk:∀ j,j<63∨63+7≤j→w'.cell? ⟨b,j,none⟩=w.cell? ⟨b,j,none⟩) (ht:w'.there b 0 78) (hl:b<w'.heap.size):ScS w' b { s with tw:=z }:=by
 obtain ⟨hp,k⟩:=scs_map h 63 70 (by omega) hk hl
 obtain ⟨r0,r1,r2⟩:=rng_c5 hr hl
 exact { th:=ht,lt:=hl,pt:=hp,c21:=(k 21 (by omega)).trans h.c21,c22:=(k 22 (by omega)).trans h.c22,c23:=(k 23 (by omega)).trans h.c23,c24:=(k 24 (by omega)).trans h.c24,c25:=(k 25 (by omega)).trans h.c25,c26:=(k 26 (by omega)).trans h.c26,c27:=(k 27 (by omega)).trans h.c27,c28:=(k 28 (by omega)).trans h.c28,c29:=(k 29 (by omega)).trans h.c29,c30:=(k 30 (by omega)).trans h.c30,dr:=fun i hi=>(k _ (by omega)).trans (h.dr i hi),tw:=r0,t68:=r1,t69:=r2,fw:=⟨hl,(hk 70 (by omega)).trans h.fw.2.1,(hk 71 (by omega)).trans h.fw.2.2.1,(hk 72 (by omega)).trans h.fw.2.2.2.1,(hk 73 (by omega)).trans h.fw.2.2.2.2.1,(hk 74 (by omega)).trans h.fw.2.2.2.2.2⟩,f75:=(hk 75 (by omega)).trans h.f75,f76:=(hk 76 (by omega)).trans h.f76,c77:=(hk 77 (by omega)).trans h.c77 }
theorem ScS.setFr {w w':World} {b:Nat} {s:Scv} (h:ScS w b s) (z:Gy) (hr:w'.rangeAt b 70 (g7 z)) (hk:∀ j,j<70∨70+7≤j→w'.cell? ⟨b,j,none⟩=w.cell? ⟨b,j,none⟩) (ht:w'.there b 0 78) (hl:b<w'.heap.size):ScS w' b { s with fw:=z }:=by
 obtain ⟨hp,k⟩:=scs_map h 70 77 (by omega) hk hl
 obtain ⟨r0,r1,r2⟩:=rng_c5 hr hl
 exact { th:=ht,lt:=hl,pt:=hp,c21:=(k 21 (by omega)).trans h.c21,c22:=(k 22 (by omega)).trans h.c22,c23:=(k 23 (by omega)).trans h.c23,c24:=(k 24 (by omega)).trans h.c24,c25:=(k 25 (by omega)).trans h.c25,c26:=(k 26 (by omega)).trans h.c26,c27:=(k 27 (by omega)).trans h.c27,c28:=(k 28 (by omega)).trans h.c28,c29:=(k 29 (by omega)).trans h.c29,c30:=(k 30 (by omega)).trans h.c30,dr:=fun i hi=>(k _ (by omega)).trans (h.dr i hi),fw:=r0,f75:=r1,f76:=r2,tw:=⟨hl,(hk 63 (by omega)).trans h.tw.2.1,(hk 64 (by omega)).trans h.tw.2.2.1,(hk 65 (by omega)).trans h.tw.2.2.2.1,(hk 66 (by omega)).trans h.tw.2.2.2.2.1,(hk 67 (by omega)).trans h.tw.2.2.2.2.2⟩,t68:=(hk 68 (by omega)).trans h.t68,t69:=(hk 69 (by omega)).trans h.t69,c77:=(hk 77 (by omega)).trans h.c77 }
theorem ScS.setOps {w w':World} {b:Nat} {s:Scv} (h:ScS w b s) (ta:Option Addr) (tn tc:Nat) (hr:w'.rangeAt b 77 [.slice ta tn tc]) (hk:∀ j,j<77∨77+1≤j→w'.cell? ⟨b,j,none⟩=w.cell? ⟨b,j,none⟩) (ht:w'.there b 0 78) (hl:b<w'.heap.size):ScS w' b { s with ta:=ta,tn:=tn,tc:=tc }:=by
 obtain ⟨hp,k⟩:=scs_map h 77 78 (by omega) hk hl
 exact { th:=ht,lt:=hl,pt:=hp,c21:=(k 21 (by omega)).trans h.c21,c22:=(k 22 (by omega)).trans h.c22,c23:=(k 23 (by omega)).trans h.c23,c24:=(k 24 (by omega)).trans h.c24,c25:=(k 25 (by omega)).trans h.c25,c26:=(k 26 (by omega)).trans h.c26,c27:=(k 27 (by omega)).trans h.c27,c28:=(k 28 (by omega)).trans h.c28,c29:=(k 29 (by omega)).trans h.c29,c30:=(k 30 (by omega)).trans h.c30,dr:=fun i hi=>(k _ (by omega)).trans (h.dr i hi),c77:=hr 0 _ rfl,fw:=⟨hl,(hk 70 (by omega)).trans h.fw.2.1,(hk 71 (by omega)).trans h.fw.2.2.1,(hk 72 (by omega)).trans h.fw.2.2.2.1,(hk 73 (by omega)).trans h.fw.2.2.2.2.1,(hk 74 (by omega)).trans h.fw.2.2.2.2.2⟩,f75:=(hk 75 (by omega)).trans h.f75,f76:=(hk 76 (by omega)).trans h.f76,tw:=⟨hl,(hk 63 (by omega)).trans h.tw.2.1,(hk 64 (by omega)).trans h.tw.2.2.1,(hk 65 (by omega)).trans h.tw.2.2.2.1,(hk 66 (by omega)).trans h.tw.2.2.2.2.1,(hk 67 (by omega)).trans h.tw.2.2.2.2.2⟩,t68:=(hk 68 (by omega)).trans h.t68,t69:=(hk 69 (by omega)).trans h.t69 }
theorem size144:(Tryz.prog.info? 246).map (·.size)=some 7:=by kernel_rfl
theorem wpl_storeS {w:World} {ops:Array Oper} {rest:List Oper} {a:Act} {Q:Exit→Act→World→Prop} {x y:Nat} {ty:TypeId} {pos:String} {after:Array Edge} (b o:Nat) (z:Gy) (ht:w.there b 0 78) (hl:b<w.heap.size) (ho:o+7≤78)
  (hx:a.eval (.tmp x)=.pointer (some ⟨b,o,none⟩)) (hy:a.eval (.tmp y)=z.v) (h:∀ w',w'.rangeAt b o (g7 z)→(∀ j,j<o∨o+7≤j→w'.cell? ⟨b,j,none⟩=w.cell? ⟨b,j,none⟩)→w'.there b 0 78→b<w'.heap.size→But b w w'→wpList Tryz.prog ops Q rest a w'):wpList Tryz.prog ops Q (⟨none,.store 246 (.tmp x) (.tmp y),ty,pos,after,none⟩::rest) a w :=
 wpList_store_mid rfl 246 (.tmp x) (.tmp y) rfl b o (g7 z).toArray hx hy (there_sub ht ho) size144 (all_oneCell_toArray (g7_ones z))
  (h _ (World.rangeAt_setCells_same w b o (g7 z) (there_sub ht ho)) (fun j hj=>cell_setCells o _ j hj) (World.there_setCells ht b o _) (Nat.lt_of_lt_of_le hl (but_setCells b _ o w).size) (but_setCells b _ o w))
theorem wpList_store_one {ops:Array Oper} {rest:List Oper} {a:Act} {w:World} {Q:Exit→Act→World→Prop} {x y:Nat} {ty:TypeId} {pos:String} {after:Array Edge} (b o:Nat) (ta:Option Addr) (tn tc:Nat) (ht:w.there b 0 78) (hl:b<w.heap.size) (ho:o+1≤78)
  (hx:a.eval (.tmp x)=.pointer (some ⟨b,o,none⟩)) (hy:a.eval (.tmp y)=.slice ta tn tc) (h:∀ w',w'.rangeAt b o [.slice ta tn tc]→(∀ j,j<o∨o+1≤j→w'.cell? ⟨b,j,none⟩=w.cell? ⟨b,j,none⟩)→w'.there b 0 78→b<w'.heap.size→But b w w'→wpList Tryz.prog ops Q rest a w'):wpList Tryz.prog ops Q (⟨none,.store 41 (.tmp x) (.tmp y),ty,pos,after,none⟩::rest) a w:=by
 refine wpList_plain rfl fun K hK=>?_
 have h1:=there_sub ht ho 0 (by omega)
 rw [Nat.add_zero] at h1
 obtain ⟨u,hu⟩:=Option.isSome_iff_exists.1 h1.1
 have hf:=h1.2
 have hx2:a.tmps[x]?.getD undef=.pointer (some ⟨b,o,none⟩):=by rw [← hx];simp [Act.eval]
 have hy2:a.tmps[y]?.getD undef=.slice ta tn tc:=by rw [← hy];simp [Act.eval]
 unfold Oper.wp
 simp [execOp,hx2,hy2,go_sem,hu,hf]
 exact hK _ _ (h _ (World.rangeAt_setCells_same w b o [.slice ta tn tc] (there_sub ht ho)) (fun j hj=>cell_setCells o [.slice ta tn tc] j hj) (World.there_setCells ht b o [.slice ta tn tc]) (Nat.lt_of_lt_of_le hl (but_setCells b [.slice ta tn tc] o w).size) (but_setCells b [.slice ta tn tc] o w))
theorem wpl_load64 {w:World} {ops:Array Oper} {rest:List Oper} {a:Act} {Q:Exit→Act→World→Prop} {x d:Nat} {ty:TypeId} {pos:String} {after:Array Edge} {desc:TypeDesc} (b o:Nat) (cs:List Value) (hn:cs.length=21) (hx:a.eval (.tmp x)=.pointer (some ⟨b,o,none⟩)) (hc:w.rangeAt b o cs) (hu:Tryz.prog.underlying 118=some desc) (hd:desc.isRow=true)
  (h:wpList Tryz.prog ops Q rest (a.put (some d) (.agg cs.toArray)) w):wpList Tryz.prog ops Q (⟨some d,.load 118 (.tmp x),ty,pos,after,none⟩::rest) a w :=
 wpList_load_mid rfl 118 (.tmp x) rfl b o hx cs desc hc hu hd (by rw [hn];exact size64) h
end Go.Proofs.YtmjenlogbkbgnaaGreatDoor
