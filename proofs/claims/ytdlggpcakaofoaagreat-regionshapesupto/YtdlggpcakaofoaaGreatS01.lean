import Derived.Test.YtdlggpcakaofoaaGreatB40
import Derived.Deep.DeepAppendRoom
import Derived.Laws.AppendOwnNone
namespace Go.Proofs.YtdlggpcakaofoaaGreat
open Go.RowKit Go.Shelf
set_option linter.unusedVariables false
set_option linter.unusedSimpArgs false
set_option maxRecDepth 100000
set_option maxHeartbeats 8000000
abbrev fnC (fn b b2:Nat):Value:=.func (.func fn) #[] #[.pointer (some ⟨b,0,none⟩),.pointer (some ⟨b2,0,none⟩)]
theorem Tryz.info123:(Tryz.prog.info? 123).map (fun i=>(i.zero,i.size,i.bytes))=some (some (.int .i64 0),1,8):=by kernel_rfl
theorem oCells_snoc:∀ (l:List Ov) (o:Ov),oCells (l++[o])=oCells l++o4 o
 | [],o=>by simp [oCells]
 | g::l,o=>by
  have:=oCells_snoc l o
  simp only [List.cons_append,oCells,this,List.append_assoc]
theorem rturn_ref2 {fn b b2:Nat} {R:List Int→Int→Prop} {w0:World} {J:List Int→World→Prop} {out:List Int→Int→Int} {lw:Nat} (hT:TurnR fn [.pointer (some ⟨b,0,none⟩),.pointer (some ⟨b2,0,none⟩)] R w0 lw J out) (m:Bool) (r:Int) (g off cap:Nat) (x:Fv) (c:Ch) (l l':List Int) (W:World) (hl:R l r) (r0:-9223372036854775808≤r) (r1:r≤9223372036854775807) (hx:C5 w0 g off x) (hJ:J l W)
  (IH0:∀ V,J (l++[r]) V→Calls Tryz.prog 52 #[x.v,fnC fn b b2] V fun e w'=>∃ f':Fv,e=.returned f'.v∧TurnP V J l' c f' w') :
  Calls Tryz.prog 52 #[tyV 4 m r 0 (some ⟨g,off,none⟩) 1 cap,fnC fn b b2] W fun e w'=>∃ f':Fv,e=.returned f'.v∧TurnP W J l' (.ref m (out l r) c) f' w':=by
 have hJ2:=hT.alloc _ _ zT.o (hT.alloc _ _ (tyO 4 m r 0 (some ⟨g,off,none⟩) 1 cap) hJ)
 have CT:Hid (Calls Tryz.prog fn #[.int .i64 r,.pointer (some ⟨b,0,none⟩),.pointer (some ⟨b2,0,none⟩)] ((W.alloc (tyO 4 m r 0 (some ⟨g,off,none⟩) 1 cap)).alloc zT.o) fun e w'=>e=.returned (.int .i64 (out l r))∧J (l++[r]) w'∧KeepT ((W.alloc (tyO 4 m r 0 (some ⟨g,off,none⟩) 1 cap)).alloc zT.o) w'∧((W.alloc (tyO 4 m r 0 (some ⟨g,off,none⟩) 1 cap)).alloc zT.o).heap.size≤w'.heap.size):=hT.call l r _ hl r0 r1 hJ2
 have IH:Hid (∀ V,J (l++[r]) V→Calls Tryz.prog 52 #[x.v,fnC fn b b2] V fun e w'=>∃ f':Fv,e=.returned f'.v∧TurnP V J l' c f' w'):=IH0
 have hB:Hid (w0.heap.size≤W.heap.size):=(hT.bel _ _ hJ).size
 have hBl:Hid (lw≤W.heap.size):=hT.siz _ _ hJ
 have A2:Hid (At ((W.alloc (tyO 4 m r 0 (some ⟨g,off,none⟩) 1 cap)).alloc zT.o) W.heap.size (Fv.o ⟨4,m,r,0,some ⟨g,off,none⟩,1,cap⟩)):=(At.new _ _).alloc _
 have A4:Hid (At ((W.alloc (tyO 4 m r 0 (some ⟨g,off,none⟩) 1 cap)).alloc zT.o) (W.heap.size+1) zT.o):=at_snd _ _ _
 have HS1:Hid (∀ (V V':World) i (f:Fv),J (l++[r]) V→At V i f.o→lw≤i→But i V V'→J (l++[r]) V'):=fun V V' i f=>hT.set _ V V' i f
 have HS:Hid (∀ (V V':World) i (f:Fv),J l' V→At V i f.o→lw≤i→But i V V'→J l' V'):=fun V V' i f=>hT.set l' V V' i f
 have HA:Hid (∀ V o,J l' V→J l' (V.alloc o)):=hT.alloc l'
 have PC:Hid (∀ V,J (l++[r]) V→C5 V g off x):=fun V h1=>hx.below (hT.bel _ _ h1)
 have hgw:g<w0.heap.size:=hx.1
 have hen:=hT.enters
 unfold Enters at hen
 obtain ⟨o,ho⟩:∃ o,o=out l r:=⟨_,rfl⟩
 rw [← ho] at CT ⊢
 clear hT hJ hJ2 IH0 hx ho hl r0 r1
 go_enter Tryz.func52,Tryz.ntmps52
 go_wp2_with fail
 refine CT.out.mono ?_
 rintro e w1 ⟨rfl,hj1,hk1,hz1⟩
 have B2:=hk1 _ _ A2.out
 have B4:=hk1 _ _ A4.out
 have C2:At (w1.setCell ⟨W.heap.size,2,none⟩ (.int .i64 o)) W.heap.size (Fv.o ⟨4,m,o,0,some ⟨g,off,none⟩,1,cap⟩):=B2.cell2 o
 have C4:At (w1.setCell ⟨W.heap.size,2,none⟩ (.int .i64 o)) (W.heap.size+1) zT.o:=B4.set (by simp) _
 have hj2:J (l++[r]) (w1.setCell ⟨W.heap.size,2,none⟩ (.int .i64 o)):=HS1.out w1 _ _ _ hj1 B2 hBl.out ((But.refl _ _).set 2 _)
 have hk2:KeepT W (w1.setCell ⟨W.heap.size,2,none⟩ (.int .i64 o)):=keepT_hi (keepT_two hk1) (Nat.le_refl _) 2 _
 have hs2:W.heap.size+2≤(w1.setCell ⟨W.heap.size,2,none⟩ (.int .i64 o)).heap.size:=by simp only [World.size_alloc] at hz1;simp only [World.size_setCell];omega
 have Q2:Hid (At (w1.setCell ⟨W.heap.size,2,none⟩ (.int .i64 o)) W.heap.size (Fv.o ⟨4,m,o,0,some ⟨g,off,none⟩,1,cap⟩)∧At (w1.setCell ⟨W.heap.size,2,none⟩ (.int .i64 o)) (W.heap.size+1) zT.o∧J (l++[r]) (w1.setCell ⟨W.heap.size,2,none⟩ (.int .i64 o))∧KeepT W (w1.setCell ⟨W.heap.size,2,none⟩ (.int .i64 o))∧W.heap.size+2≤(w1.setCell ⟨W.heap.size,2,none⟩ (.int .i64 o)).heap.size):=⟨C2,C4,hj2,hk2,hs2⟩
 have k2:=B2.tyF 2
 obtain ⟨hl2,p0,p1,p2,p3,p4⟩:=B2.ty
 simp only [Nat.zero_add] at p0 p1 p2 p3 p4
 obtain ⟨hgl,q0,q1,q2,q3,q4⟩:=PC.out _ hj1
 have hgne:g≠W.heap.size:=by have:=hB.out;omega
 clear C2 C4 hj2 hk2 hs2 B2 B4
 go_wp2_with (go_at_call 52;refine (IH.out _ Q2.out.2.2.1).mono ?_;rintro e w2 ⟨f2,rfl,hP⟩;clear p0 p1 p2 p3 p4 q0 q1 q2 q3 q4;have D2:=hP.keep _ _ Q2.out.1;have D4:=hP.keep _ _ Q2.out.2.1;have g0:=D4.tyF 0;have g1:=D4.tyF 1;have g2:=D4.tyF 2;have g3:=D4.tyF 3;have g4:=D4.tyF 4;have k4:=D2.tyF 4;obtain ⟨hl4,q0,q1,q2,q3,q4⟩:=D4.ty;obtain ⟨hl2,p0,p1,p2,p3,p4⟩:=D2.ty;simp only [Nat.zero_add] at p0 p1 p2 p3 p4 q0 q1 q2 q3 q4)
 obtain ⟨F1,F2,F3,F4,F5,F6,F7⟩:=rturn_fin (J:=J l') (lw:=lw) ⟨4,m,o,0,some ⟨w2.heap.size,0,none⟩,1,1⟩ (.slice (some ⟨w2.heap.size,0,none⟩) 1 1) hP.own Q2.out.2.2.2.2 hP.j (Q2.out.2.2.2.1.trans hP.keep) D2 D4 hBl.out HS.out HA.out
 exact bodyPost_ret (results_c1 (g:=⟨4,m,o,0,some ⟨w2.heap.size,0,none⟩,1,1⟩) Tryz.results52 rfl F1) rfl ⟨⟨4,m,o,0,some ⟨w2.heap.size,0,none⟩,1,1⟩,rfl,⟨.ref m o w2.heap.size f2 c F7 F3 F2,F4,F5,F6⟩⟩
theorem rturned_any2 {fn b b2:Nat} {R:List Int→Int→Prop} {w0:World} {J:List Int→World→Prop} {out:List Int→Int→Int} {lw:Nat} (hT:TurnR fn [.pointer (some ⟨b,0,none⟩),.pointer (some ⟨b2,0,none⟩)] R w0 lw J out):∀ (c:Ch) (f:Fv) (l:List Int) (W:World),c.ok 32→okR R l c→TyAt w0 f c.ty→J l W →
  Calls Tryz.prog 52 #[f.v,fnC fn b b2] W fun e w'=>∃ f':Fv,e=.returned f'.v∧TurnP W J (l++c.regs) (turnC out l c) f' w':=by
 intro c
 induction c with
 | leaf k s =>
  intro f l W hc hl h hJ
  obtain ⟨a,cap,rfl,-⟩:=h.leaf
  have hk:¬ (k:Int)=3∧¬ (k:Int)=4:=by
   have:(k=1∨k=2)∧s=0∨k=5∧0≤s∧s<32:=hc
   omega
  have:=rturn_leaf hT (fnC fn b b2) k s a cap l W hk.1 hk.2 hJ
  simpa only [Ch.regs,List.append_nil,turnC] using this
 | box c ih =>
  intro f l W hc hl h hJ
  obtain ⟨g,off,cap,x,rfl,hx,ht⟩:=h.box
  exact rturn_box hT (fnC fn b b2) g off cap x (turnC out l c) l (l++c.regs) W hx hJ (fun V hV=>ih x l V hc hl ht hV)
 | ref m r c ih =>
  intro f l W hc hl h hJ
  obtain ⟨g,off,cap,x,rfl,hx,ht,r0,r1⟩:=h.ref
  refine rturn_ref2 hT m r g off cap x (turnC out (l++[r]) c) l (l++(Ch.ref m r c).regs) W hl.1 r0 r1 hx hJ (fun V hV=>?_)
  have:=ih x (l++[r]) V hc.2 hl.2 ht hV
  rw [List.append_assoc] at this
  exact this
theorem Ok.inBox {c:Ch} (h:Ok (.box c)):Ok c:=⟨h.ok,by have:=h.deep;simp only [Ch.depth] at this;omega⟩
theorem Ok.inRef {m:Bool} {r:Int} {c:Ch} (h:Ok (.ref m r c)):Ok c:=⟨h.ok.2,by have:=h.deep;simp only [Ch.depth] at this;omega⟩
theorem step_mem {w:World} {a:Option Addr} {n cap:Nat} {fc:Nat→List Ch} (h:SF w a n cap fc) {c d:Ch} {f:Fv} {s gi:Int} (hc:c.ok n) (hT:TyAt w f c.ty) (hs:stepC fc c s=some (d,gi)) :
  ∃ f':Fv,TyAt w f' d.ty∧((s=-1∧∃ g off fcap,f.a=some ⟨g,off,none⟩∧f.n=1∧f.cap=fcap∧C5 w g off f')∨(∃ (j k g off g2 o2 fcap:Nat),s=(k:Int)∧f.s=(j:Int)∧j<n∧n≤32∧k<(fc j).length∧(fc j).length≤8∧a=some ⟨g,off,none⟩∧g<w.heap.size∧w.cell? ⟨g,off+j*2+1,none⟩=some (.slice (some ⟨g2,o2,none⟩) (fc j).length fcap)∧C5 w g2 (o2+k*6+1) f')):=by
 cases c with
 | leaf k sn =>
  rw [stepC_leaf] at hs
  split at hs
  ·rename_i hk
   obtain ⟨d',hd,he⟩:=Option.map_eq_some_iff.1 hs
   cases he
   obtain ⟨fa,fcap,rfl,-,-,-⟩:=hT.leaf
   have hsn:0≤sn∧sn<(n:Int):=by
    rcases hc with ⟨h1,-⟩|⟨-,h2,h3⟩
    ·rcases h1 with h1|h1 <;> omega
    ·exact ⟨h2,h3⟩
   obtain ⟨j,rfl⟩:∃ j:Nat,sn=(j:Int):=⟨sn.toNat,by omega⟩
   obtain ⟨kk,rfl⟩:∃ kk:Nat,s=(kk:Int):=⟨s.toNat,by omega⟩
   rw [Int.toNat_natCast,Int.toNat_natCast] at hd
   have hj:j<n:=by omega
   obtain ⟨g,off,fa2,fcap2,e1,hg,hcell,hF⟩:=h.st j hj
   have hkl:=(List.getElem?_eq_some_iff.1 hd).1
   obtain ⟨-,hF2⟩:=hF
   obtain ⟨g2,o2,e2,hF3⟩:=hF2 (fun e=>by
    have:(fc j).length=0:=by rw [← List.length_map (f:=Ch.ty),e];rfl
    omega)
   obtain ⟨V,nm,-,hC,hTV⟩:=hF3 kk d.ty (by rw [List.getElem?_map,hd];rfl)
   subst e2
   exact ⟨V,hTV,.inr ⟨j,kk,g,off,g2,o2,fcap2,rfl,rfl,hj,h.le,hkl,h.len j hj,e1,hg,hcell,hC⟩⟩
  ·cases hs
 | box c =>
  rw [stepC_box] at hs
  split at hs
  ·rename_i hk
   cases hs
   obtain ⟨g,off,fcap,f',rfl,h1,h2⟩:=hT.box
   exact ⟨f',h2,.inl ⟨hk,g,off,fcap,rfl,rfl,rfl,h1⟩⟩
  ·cases hs
 | ref m r c =>
  rw [stepC_ref] at hs
  split at hs
  ·rename_i hk
   cases hs
   obtain ⟨g,off,fcap,f',rfl,h1,h2,-⟩:=hT.ref
   exact ⟨f',h2,.inl ⟨hk,g,off,fcap,rfl,rfl,rfl,h1⟩⟩
  ·cases hs
theorem rtypeOf_any (w:World) {sa:Option Addr} {sn scap:Nat} {fc:Nat→List Ch} (hSF:SF w sa sn scap fc) (g off l ln lc:Nat) (pa:Option Addr) (pn pcap:Nat) {p:List Int} (hP:PAt w ⟨(l:Int),pa,pn,pcap⟩ p) (hp8:p.length≤8) {f:Fv} {c d:Ch} {gv:List Int} (hl:l<ln) (hn:ln≤512) (hx:C5 w g (off+l*5) f) (hT:TyAt w f c.ty) (hc:c.ok sn) (hway:wayC fc c p=some (d,gv)) (hd:Ok d) :
  Calls Tryz.prog 46 #[.slice sa sn scap,.slice (some ⟨g,off,none⟩) ln lc,plV (l:Int) pa pn pcap] w fun e w'=>∃ f':Fv,e=.returned f'.v∧New w w' f' d:=by
 obtain ⟨k,m,r,s,a,n,cap⟩:=f
 obtain ⟨A5',A6',A7'⟩:=three_new w (plO (l:Int) pa pn pcap) zT.o (tyO k m r s a n cap)
 have hB':Below w.heap.size w (((w.alloc (plO (l:Int) pa pn pcap)).alloc zT.o).alloc (tyO k m r s a n cap)):=belA (belA (belA bR))
 obtain ⟨V,hV⟩:∃ V,V=(((w.alloc (plO (l:Int) pa pn pcap)).alloc zT.o).alloc (tyO k m r s a n cap)):=⟨_,rfl⟩
 have hz:Hid (V.heap.size=w.heap.size+3):=jH (by rw [hV];simp only [World.size_alloc])
 rw [← hV] at A5' A6' A7' hB'
 have HV:=jH hV
 have HB:=jH hB'
 have A5:=jH A5'
 have A6:=jH A6'
 have A7:Hid (At V (w.heap.size+1+1) (Fv.o ⟨k,m,r,s,a,n,cap⟩)):=jH A7'
 have CT:Hid (∀ (W:World) (f2:Fv),Below w.heap.size w W→TyAt w f2 d.ty→Calls Tryz.prog 52 #[f2.v,fnZ 78] W fun e w'=>∃ f':Fv,e=.returned f'.v∧TurnP W (fun _ X=>Below W.heap.size W X) d.regs d f' w'):=jH (fun W f2 hW hT2=>by
  have:=rturned_any0 (turnI W) d f2 [] W hd.ok (okR_true d []) (hT2.bel hW) bR
  rw [turn_id] at this
  exact this)
 obtain ⟨hg,p0,p1,p2,p3,p4⟩:=hx.below (belA (belA (Below.refl w.heap.size w)):Below w.heap.size w ((w.alloc (plO (l:Int) pa pn pcap)).alloc zT.o))
 have l0:(0:Int)≤(l:Int):=by omega
 have l1:(l:Int)<(ln:Int):=by omega
 have l2:(ln:Int)≤512:=by omega
 have A51:Hid (At ((w.alloc (plO (l:Int) pa pn pcap)).alloc zT.o) w.heap.size (plO (l:Int) pa pn pcap)):=jH ((At.new _ _).alloc _)
 obtain ⟨W0,hW0⟩:∃ W0,W0=((w.alloc (plO (l:Int) pa pn pcap)).alloc zT.o):=⟨_,rfl⟩
 have hzW:Hid (W0.heap.size=w.heap.size+1+1):=jH (by rw [hW0];simp only [World.size_alloc])
 rw [← hW0] at hg p0 p1 p2 p3 p4 A51
 have HW0:=jH hW0
 have HVW:Hid (V=W0.alloc (tyO k m r s a n cap)):=jH (by rw [hV,hW0])
 obtain ⟨x0,x1⟩:=A51.out.pl
 have HSF:=jH hSF
 have HPR:Hid (IntR w pa pn pcap p):=jH hP.row
 have HPN:Hid (pn=p.length):=jH hP.row.len
 have HTY:Hid (TyAt w ⟨k,m,r,s,a,n,cap⟩ c.ty):=jH hT
 have HCO:=jH hc
 have HWY:=jH hway
 have pn8:(pn:Int)≤8:=by have:pn=p.length:=hP.row.len;omega
 clear A5' A6' A7' hB' hV hx hT hc hW0 hSF hP hway hp8 hd
 go_enter Tryz.func46,Tryz.ntmps46
 go_upto_region 1 with fail
 change Code.wp _ _ _ _ ((w.alloc (plO (l:Int) pa pn pcap)).alloc zT.o)
 rw [← HW0.out]
 go_upto_region 2 with fail
 change Code.wp _ _ _ _ (W0.alloc (tyO k m r s a n cap))
 rw [← HVW.out]
 simp only [hzW.out]
 clear HVW HW0 hzW p0 p1 p2 p3 p4 hg x0 x1 A51 HV
 obtain ⟨x0,x1⟩:=A5.out.pl
 go_wp2_with fail
 clear x0 x1
 go_loopw [18] (fun v W=>∃ (i:Nat) (fi:Fv) (ci:Ch) (gi:List Int),i≤pn∧v=.int .i64 (i:Int)∧TyAt w fi ci.ty∧ci.ok sn∧wayC fc ci (p.drop i)=some (d,gi)∧At W (w.heap.size+1) zT.o∧At W (w.heap.size+1+1) fi.o∧Below w.heap.size w W∧w.heap.size+3≤W.heap.size) (fun v _=>pn - (intOf v).toNat+1)
 case atStart=>exact ⟨0,_,c,gv,Nat.zero_le _,rfl,HTY.out,HCO.out,HWY.out,A6.out,A7.out,HB.out,by have:=hz.out;omega⟩
 case round =>
  clear A5 A6 A7 HTY HCO HWY hz
  obtain ⟨i,fi,ci,gi,hi,rfl,hT,hc,hw,hA6,hA7,hB,hzz⟩:=hrel
  have A6:=jH hA6
  have A7:=jH hA7
  have HBV:=jH hB
  have HZ:=jH hzz
  by_cases hlt:i<pn
  ·obtain ⟨st,hst⟩:∃ st,p[i]?=some st:=⟨_,List.getElem?_eq_getElem (by have:=HPN.out;omega)⟩
   have hdr:p.drop i=st::p.drop (i+1):=by
    obtain ⟨h1,h2⟩:=List.getElem?_eq_some_iff.1 hst
    rw [← h2]
    exact List.drop_eq_getElem_cons h1
   rw [hdr,wayC,Option.bind_eq_some_iff] at hw
   obtain ⟨⟨c2,g1⟩,hs1,hw2⟩:=hw
   obtain ⟨⟨d2,gs2⟩,hw3,he⟩:=Option.map_eq_some_iff.1 hw2
   have hd2:d2=d:=by cases he;rfl
   subst hd2
   have hc2:=(stepC_ok HSF.out hc hs1).1
   obtain ⟨pg,po,ep,hpg,hpc⟩:=HPR.out.nth hst
   obtain ⟨f2,hT2,hcase⟩:=step_mem HSF.out hc hT hs1
   have hpc2:wr.cell? ⟨pg,po+i,none⟩=some (.int .i64 st):=(hB.cell (p:=⟨pg,po+i,none⟩) hpg).trans hpc.1
   have hpl:pg<wr.heap.size:=Nat.lt_of_lt_of_le hpg hB.size
   subst ep
   have i0:(0:Int)≤(i:Int):=by omega
   have i1:(i:Int)<(pn:Int):=by omega
   have HLT:=jH hlt
   obtain ⟨k9,m9,r9,s9,a9,n9,cap9⟩:=fi
   obtain ⟨k8,m8,r8,s8,a8,n8,cap8⟩:=f2
   have HNX:Hid (∃ (fi:Fv) (ci:Ch) (gi:List Int),fi=⟨k8,m8,r8,s8,a8,n8,cap8⟩∧TyAt w fi ci.ty∧ci.ok sn∧wayC fc ci (p.drop (i+1))=some (d2,gi)):=jH ⟨_,c2,gs2,rfl,hT2,hc2,hw3⟩
   have HFIN:Hid (∀ W,W=S5 wr (w.heap.size+1+1) ⟨k8,m8,r8,s8,a8,n8,cap8⟩→At W (w.heap.size+1) zT.o∧At W (w.heap.size+1+1) (Fv.o ⟨k8,m8,r8,s8,a8,n8,cap8⟩)∧Below w.heap.size w W∧w.heap.size+3≤W.heap.size):=jH (by
    intro W hW
    subst hW
    exact ⟨A6.out.S5 (by omega) _,At.set5 A7.out _,below_s5 HBV.out (by omega) _,by rw [size_S5];exact HZ.out⟩)
   obtain ⟨hl7,y0,y1,y2,y3,y4⟩:=hA7.ty
   simp only [Nat.zero_add] at y0 y1 y2 y3 y4
   clear hA6 hA7 hdr hs1 hw2 hw3 he hc hT hc2 hT2 hlt hi hst hpc hpg hzz
   rcases hcase with ⟨e1,tg,to_,fcap,e2,e3,e4,hC⟩|⟨j2,k2,g3,o3,g2,o2,fcap,e1,e2,hj,hn32,hk2,hk8,e3,hg3,hc3,hC⟩
   ·have e2':a9=some ⟨tg,to_,none⟩:=e2
    have e3':n9=1:=e3
    subst e1 e2' e3'
    obtain ⟨hgl,z0,z1,z2,z3,z4⟩:=hC.below hB
    clear hC e2 e3 e4 hB
    go_wp2_with ((with_reducible show wpList _ _ _ (Oper.mk none (Op.store 46 _ _) _ _ _ none::_) _ _);refine wpl_storeT (w.heap.size+1+1) ⟨k9,m9,r9,s9,some ⟨tg,to_,none⟩,1,cap9⟩ ⟨k8,m8,r8,s8,a8,n8,cap8⟩ A7.out rfl rfl ?_;intro w9 hw9;have HW9:=jH (HFIN.out w9 hw9);clear hw9 y0 y1 y2 y3 y4 z0 z1 z2 z3 z4)
    obtain ⟨fi,ci,gi,rfl,t1,t2,t3⟩:=HNX.out
    obtain ⟨q6,q7,qB,qz⟩:=HW9.out
    refine ⟨⟨i+1,_,ci,gi,HLT.out,rfl,t1,t2,t3,q6,q7,qB,qz⟩,?_⟩
    show pn - ((i:Int)+1).toNat+1<pn - (i:Int).toNat+1
    have:=HLT.out
    omega
   ·have e2':s9=(j2:Int):=e2
    subst e1 e2' e3
    have n1:((k2:Int) == -1)=false:=by simp
    have n2:¬ (k2:Int)=-1:=by omega
    obtain ⟨hgl,z0,z1,z2,z3,z4⟩:=hC.below hB
    have hc4:wr.cell? ⟨g3,o3+j2*2+1,none⟩=some (.slice (some ⟨g2,o2,none⟩) (fc j2).length fcap):=(hB.cell (p:=⟨g3,o3+j2*2+1,none⟩) hg3).trans hc3
    have hg4:g3<wr.heap.size:=Nat.lt_of_lt_of_le hg3 hB.size
    obtain ⟨fl,hfl⟩:∃ fl,fl=(fc j2).length:=⟨_,rfl⟩
    rw [← hfl] at hc4 hk2 hk8
    have j20:(0:Int)≤(j2:Int):=by omega
    have j21:(j2:Int)<(sn:Int):=by omega
    have j22:(sn:Int)≤32:=by omega
    have k20:(0:Int)≤(k2:Int):=by omega
    have k21:(k2:Int)<(fl:Int):=by omega
    have k22:(fl:Int)≤8:=by omega
    clear hC e2 hB hc3 hg3 hfl hj hn32 hk2 hk8
    go_wp2_with ((with_reducible show wpList _ _ _ (Oper.mk none (Op.store 46 _ _) _ _ _ none::_) _ _);refine wpl_storeT (w.heap.size+1+1) ⟨k9,m9,r9,(j2:Int),a9,n9,cap9⟩ ⟨k8,m8,r8,s8,a8,n8,cap8⟩ A7.out rfl rfl ?_;intro w9 hw9;have HW9:=jH (HFIN.out w9 hw9);clear hw9 y0 y1 y2 y3 y4 z0 z1 z2 z3 z4)
    obtain ⟨fi,ci,gi,rfl,t1,t2,t3⟩:=HNX.out
    obtain ⟨q6,q7,qB,qz⟩:=HW9.out
    refine ⟨⟨i+1,_,ci,gi,HLT.out,rfl,t1,t2,t3,q6,q7,qB,qz⟩,?_⟩
    show pn - ((i:Int)+1).toNat+1<pn - (i:Int).toNat+1
    have:=HLT.out
    omega
  ·obtain rfl:i=pn:=by omega
   have hw0:ci=d:=by
    rw [List.drop_eq_nil_of_le (by rw [← HPN.out];exact Nat.le_refl _)] at hw
    simp only [wayC,Option.some.injEq,Prod.mk.injEq] at hw
    exact hw.1
   subst hw0
   have CT1:=jH (CT.out wr fi hB hT)
   obtain ⟨k9,m9,r9,s9,a9,n9,cap9⟩:=fi
   obtain ⟨hl7,y0,y1,y2,y3,y4⟩:=hA7.ty
   have i1:¬ (i:Int)<(i:Int):=by omega
   simp only [Nat.zero_add] at y0 y1 y2 y3 y4
   clear hlt hi hT hc hw hA6 hA7 hB hzz
   go_wp2_with (go_at_call 52;refine CT1.out.mono ?_;rintro e w3 ⟨f2,rfl,hP⟩;clear y0 y1 y2 y3 y4;have B4:=hP.keep _ _ A6.out;have g0:=B4.tyF 0;have g1:=B4.tyF 1;have g2:=B4.tyF 2;have g3:=B4.tyF 3;have g4:=B4.tyF 4;obtain ⟨hl4,q0,q1,q2,q3,q4⟩:=B4.ty;simp only [Nat.zero_add] at q0 q1 q2 q3 q4)
   obtain ⟨F1,F2⟩:=new_s5 hP.own (jB HBV.out hP.j) (b:=w.heap.size+1) (by omega) (by have:=HZ.out;omega) B4
   exact bodyPost_ret (results_c1 (g:=f2) Tryz.results46 rfl F1) rfl ⟨f2,rfl,F2⟩
theorem gType_yes {w:World} {a ua:Option Addr} {n cap un ucap:Nat} {mn:Int} {gs:List Grp} {j:Nat} {g:Grp} {cl:List Ch} {fc:Nat→List Ch} (h:UG1 w a ua n cap un ucap mn gs j g cl fc) {fc2:Nat→List Ch} (hX:∀ la ln lc,LcAt w la ln lc (cl.map Ch.ty)→Cx w a la n cap ln lc true fc2 cl) (xl:Int) (xa:Option Addr) (xn xcap:Nat) {p:List Int} (hP:PAt w ⟨xl,xa,xn,xcap⟩ p) {c:Ch} {gv:List Int} (hR:wyX true fc2 cl xl p=some (c,gv)) (hdeep:c.depth≤48) :
  Calls Tryz.prog 36 #[uV a n cap ua un ucap mn,.int .i64 (j:Int),plV xl xa xn xcap] w fun e w'=>∃ f':Fv,e=.returned (.tuple #[f'.v,.int .i64 0])∧New w w' f' c:=by
 obtain ⟨ug,uo,nm,oa,on,oc,pa,la,ln,lc,na,nn,nc,qa,qn,qc,ea,hC7,hLc,hPs⟩:=h.rg.ex
 obtain ⟨lv,hlv⟩:∃ lv,lv=g.lv:=⟨_,rfl⟩
 rw [← hlv] at hC7
 have hCx:=hX la ln lc hLc
 obtain ⟨A2',A5',A6'⟩:=three_new w (uO a n cap ua un ucap mn) (plO xl xa xn xcap) zT.o
 have hB:Below w.heap.size w (((w.alloc (uO a n cap ua un ucap mn)).alloc (plO xl xa xn xcap)).alloc zT.o):=belA (belA (belA bR))
 obtain ⟨V,hV⟩:∃ V,V=(((w.alloc (uO a n cap ua un ucap mn)).alloc (plO xl xa xn xcap)).alloc zT.o):=⟨_,rfl⟩
 have hz:Hid (V.heap.size=w.heap.size+3):=jH (by rw [hV];simp only [World.size_alloc])
 rw [← hV] at A2' A5' A6' hB
 have A2:=jH A2'
 have A5:=jH A5'
 have A6:=jH A6'
 have HB:=jH hB
 have HV:=jH hV
 have CG:=jH (graphOf_yes (h.bel hB) ea (hC7.bel hB))
 have CT:Hid (∀ W,Below w.heap.size w W→Calls Tryz.prog 67 #[.slice a n cap,.slice la ln lc,plV xl xa xn xcap] W fun e w'=>(∃ f':Fv,e=.returned (.tuple #[f'.v,.int .i64 0])∧New W w' f' c)∧Below W.heap.size W w'):=jH fun W hW=>by
  have:=Type_any (W:=W) hW hCx (hP.bel hW) (some (c,gv)) hR.symm (fun z hz=>by cases hz;exact hdeep)
  exact this
 clear h hX hP hB hV A2' A5' A6' hC7 hLc hPs hCx hlv hR hdeep ea
 go_enter Tryz.func36,Tryz.ntmps36
 go_upto_region 1 with fail
 change Code.wp _ _ _ _ (((w.alloc (uO a n cap ua un ucap mn)).alloc (plO xl xa xn xcap)).alloc zT.o)
 rw [← HV.out]
 clear HV
 obtain ⟨u0,u1,u2⟩:=A2.out.un
 obtain ⟨x0,x1⟩:=A5.out.pl
 go_upto_region 2 with (first
  | (go_at_call 66;refine CG.out.mono ?_;rintro e w1 ⟨rfl,hb1⟩;have HB1:=jH hb1;clear hb1 u0 u1 u2 x0 x1)
  | ((with_reducible show wpList _ _ _ (Oper.mk none (Op.store 70 _ _) _ _ _ none::_) _ _);refine wpl_store70 w1.heap.size nm lv oa on oc pa la ln lc na nn nc qa qn qc (there_new w1 _ _ 7 rfl) (by simp) rfl rfl ?_;intro U h9 hb9;have H9:=jH h9;have HB9:=jH hb9;clear h9 hb9))
 have hb2:=jH (belBut (belA HB1.out) HB9.out HB1.out.size (by have:=HB1.out.size;simp;omega))
 clear HB9 HB1 CG
 obtain ⟨b8,hb8⟩:∃ b8,b8=w1.heap.size:=⟨_,rfl⟩
 rw [← hb8] at H9 ⊢
 clear hb8
 obtain ⟨u0,u1,u2⟩:=(A2.out.below hb2.out).un
 obtain ⟨x0,x1⟩:=(A5.out.below hb2.out).pl
 obtain ⟨e0,e1,e2,e3,e4,e5,e6⟩:=H9.out.cells
 simp only [Nat.zero_add] at e0 e1 e2 e3 e4 e5 e6
 have hl8:=H9.out.1
 have hl5:=(A5.out.below hb2.out).lt
 go_wp2_with (go_at_call 67;refine (CT.out U (jB HB.out hb2.out)).mono ?_;rintro e w3 ⟨⟨f2,rfl,hN⟩,hb3⟩;clear u0 u1 u2 x0 x1 e0 e1 e2 e3 e4 e5 e6 hl8 hl5;have B4:=(A6.out.below hb2.out).below hb3;have g0:=B4.tyF 0;have g1:=B4.tyF 1;have g2:=B4.tyF 2;have g3:=B4.tyF 3;have g4:=B4.tyF 4;obtain ⟨hl4,q0,q1,q2,q3,q4⟩:=B4.ty;simp only [Nat.zero_add] at q0 q1 q2 q3 q4)
 obtain ⟨F1,F2⟩:=new_store hN (jB HB.out hb2.out) (b:=w.heap.size+1+1) (by omega) (A6.out.below hb2.out).lt B4
 exact bodyPost_ret (results_c2 (g:=f2) Tryz.results36 rfl rfl F1) rfl ⟨f2,rfl,F2⟩
theorem way_turn (fc:Nat→List Ch) (out:List Int→Int→Int):∀ (p:List Int) (c:Ch) (l:List Int) (d:Ch) (g:List Int),wayC fc c p=some (d,g)→∃ d',wayC fc (turnC out l c) p=some (d',g)∧(d'=d∨∃ l',d'=turnC out l' d)
 | [],c,l,d,g,h=>by
  cases h
  exact ⟨_,rfl,.inr ⟨l,rfl⟩⟩
 | s::p,c,l,d,g,h=>by
  rw [wayC,Option.bind_eq_some_iff] at h
  obtain ⟨⟨c1,g1⟩,h1,h2⟩:=h
  obtain ⟨⟨d2,g2⟩,h3,h4⟩:=Option.map_eq_some_iff.1 h2
  cases h4
  cases c with
  | leaf k sn=>exact ⟨_,by simp only [turnC];rw [wayC,h1];simp only [Option.bind_some];rw [h3];rfl,.inl rfl⟩
  | box c =>
   rw [stepC_box] at h1
   split at h1
   ·rename_i hs
    cases h1
    obtain ⟨d',h5,h6⟩:=way_turn fc out p _ l _ g2 h3
    exact ⟨d',by simp only [turnC];rw [wayC,stepC_box,if_pos hs];simp only [Option.bind_some];rw [h5];rfl,h6⟩
   ·cases h1
  | ref m r c =>
   rw [stepC_ref] at h1
   split at h1
   ·rename_i hs
    cases h1
    obtain ⟨d',h5,h6⟩:=way_turn fc out p _ (l++[r]) _ g2 h3
    exact ⟨d',by simp only [turnC];rw [wayC,stepC_ref,if_pos hs];simp only [Option.bind_some];rw [h5];rfl,h6⟩
   ·cases h1
theorem Place_yes {w:World} {a ua:Option Addr} {n cap un ucap:Nat} {mn:Int} {gs:List Grp} {j:Nat} {g:Grp} {cl:List Ch} {fc:Nat→List Ch} (h:UG1 w a ua n cap un ucap mn gs j g cl fc) {fc2:Nat→List Ch} (hX:∀ W,Below w.heap.size w W→∀ la ln lc,LcAt W la ln lc (cl.map Ch.ty)→Cx W a la n cap ln lc true fc2 cl) (hSF:SF w a n cap fc2) (hcn5:cntP gs (cntL g.lv cl) g.pt≤512) {l:Nat} {c d d0:Ch} {gv gv0:List Int} (hc:(numR g.lv cl)[l]?=some c) (hok:c.ok n) (hrg:c.rg) (xa:Option Addr) (xn xcap:Nat) {p:List Int} (hP:PAt w ⟨(l:Int),xa,xn,xcap⟩ p) (hp8:p.length≤8) (hw0:wyX true fc2 cl (l:Int) p=some (d0,gv0)) (hdp:d0.depth≤48) (hw:wayC fc2 c p=some (d,gv)) (hOd:Ok d) :
  Calls Tryz.prog 17 #[uV a n cap ua un ucap mn,.int .i64 (j:Int),plV (l:Int) xa xn xcap] w fun e w'=>∃ f':Fv,e=.returned (.tuple #[f'.v,.int .i64 0])∧New w w' f' d:=by
 have hln:l<cl.length:=by have:=(List.getElem?_eq_some_iff.1 hc).1;rw [numR_len] at this;exact this
 have hl5:=h.rg.cln
 obtain ⟨A2',A5',A6'⟩:=three_new w (uO a n cap ua un ucap mn) (plO (l:Int) xa xn xcap) zT.o
 have hB:Below w.heap.size w (((w.alloc (uO a n cap ua un ucap mn)).alloc (plO (l:Int) xa xn xcap)).alloc zT.o):=belA (belA (belA bR))
 obtain ⟨V,hV⟩:∃ V,V=(((w.alloc (uO a n cap ua un ucap mn)).alloc (plO (l:Int) xa xn xcap)).alloc zT.o):=⟨_,rfl⟩
 have hz:Hid (V.heap.size=w.heap.size+3):=jH (by rw [hV];simp only [World.size_alloc])
 rw [← hV] at A2' A5' A6' hB
 have A2:=jH A2'
 have A5:=jH A5'
 have A6:=jH A6'
 have HB:=jH hB
 have HV:=jH hV
 have CG:Hid (Calls Tryz.prog 36 #[uV a n cap ua un ucap mn,.int .i64 (j:Int),plV (l:Int) xa xn xcap] V fun e w'=>∃ f':Fv,e=.returned (.tuple #[f'.v,.int .i64 0])∧Below V.heap.size V w'):=jH ((gType_yes (h.bel hB) (hX V hB) (l:Int) xa xn xcap (hP.bel hB) hw0 hdp).mono fun e w' k=>by
  obtain ⟨f',h1,h2⟩:=k
  exact ⟨f',h1,h2.bel⟩)
 obtain ⟨L,hL⟩:∃ L,L=numR g.lv cl:=⟨_,rfl⟩
 have CR:Hid (∀ W,Below V.heap.size V W→Calls Tryz.prog 43 #[uV a n cap ua un ucap mn,.int .i64 (j:Int)] W fun e w'=>(∃ (lv:Int) (np:Nat) (cn:Int) (nl:Nat) (aL:Option Addr) (cL:Nat) (aA:Option Addr) (cA:Nat),e=.returned (.tuple #[rgV lv np cn (.slice aL nl cL) (.slice aA np cA),.int .i64 0])∧(∃ fl lo hi,FRow w' W.heap.size (.slice aL nl cL) L fl lo hi)∧nl=L.length∧l<nl∧nl≤512)∧Below W.heap.size W w'):=jH fun W hW=>(regionsOf_any (a:=a) (n:=n) (cap:=cap) ucap mn (h.rg.bel (jB hB hW))).mono fun e w' k=>by
  obtain ⟨aL,cL,aA,cA,fl,lo,hi,h1,h2,h3⟩:=k.1.1 hcn5
  exact ⟨⟨_,_,_,_,aL,cL,aA,cA,h1,⟨fl,lo,hi,by rw [hL];exact h2⟩,by rw [hL,numR_len],hln,hl5⟩,k.2⟩
 have HCL:Hid (L[l]?=some c):=jH (by rw [hL];exact hc)
 have HOK:=jH hok
 have HSF:=jH hSF
 have HPA:=jH hP
 have HP8:=jH hp8
 have HWY:=jH hw
 have HOD:=jH hOd
 have HRG:=jH hrg
 clear h hX hc hB hV A2' A5' A6' hln hl5 hL hok hrg hcn5 hSF hP hp8 hw0 hdp hw hOd
 go_enter Tryz.func17,Tryz.ntmps17
 go_upto_region 1 with fail
 change Code.wp _ _ _ _ (((w.alloc (uO a n cap ua un ucap mn)).alloc (plO (l:Int) xa xn xcap)).alloc zT.o)
 rw [← HV.out]
 clear HV
 obtain ⟨u0,u1,u2⟩:=A2.out.un
 obtain ⟨x0,x1⟩:=A5.out.pl
 go_upto_region 2 with (go_at_call 36;refine CG.out.mono ?_;rintro e w1 ⟨⟨k1,m1,r1,s1,a1,n1,c1⟩,rfl,hb1⟩;have HB1:=jH hb1;clear hb1 u0 u1 u2 x0 x1)
 have HB2:=jH (belA HB1.out (o:=tyO k1 m1 r1 s1 a1 n1 c1))
 change Code.wp _ _ _ _ (w1.alloc (tyO k1 m1 r1 s1 a1 n1 c1))
 generalize (w1.alloc (tyO k1 m1 r1 s1 a1 n1 c1))=U at HB2 ⊢
 clear HB1 CG
 obtain ⟨u0,u1,u2⟩:=(A2.out.below HB2.out).un
 go_upto_region 5 with (go_at_call 43;refine (CR.out U HB2.out).mono ?_;rintro e w2 ⟨⟨lv,np,cn,nl,aL,cL,aA,cA,rfl,hR,hnl,hlt,hl5⟩,hb2⟩;have HR:=jH hR;have HNL:=jH hnl;have HB3:=jH (jB HB2.out hb2);clear hb2 hR hnl u0 u1 u2)
 obtain ⟨fl,lo,hi,hRow⟩:=HR.out
 have A10:Hid (At (w2.alloc (rgO lv np cn (.slice aL nl cL) (.slice aA np cA))) w2.heap.size (rgO lv np cn (.slice aL nl cL) (.slice aA np cA))):=jH (At.new _ _)
 have HR4:=jH (hRow.bel (belA bR (o:=(rgO lv np cn (.slice aL nl cL) (.slice aA np cA)))))
 have HB4:=jH (belA HB3.out (o:=(rgO lv np cn (.slice aL nl cL) (.slice aA np cA))))
 obtain ⟨b10,hb10⟩:∃ b10,b10=w2.heap.size:=⟨_,rfl⟩
 rw [← hb10] at A10 ⊢
 change Code.wp _ _ _ _ (w2.alloc (rgO lv np cn (.slice aL nl cL) (.slice aA np cA)))
 generalize (w2.alloc (rgO lv np cn (.slice aL nl cL) (.slice aA np cA)))=U4 at A10 HR4 HB4 ⊢
 clear HR HB3 CR hRow hb10 HB2
 obtain ⟨gL,cL2,c',f,hv,hgl,hgB,hc1,hf1,hC5,hOw⟩:=HR4.out.at (n:=0) (i:=l) (by rw [← HNL.out];exact hlt)
 rw [HCL.out] at hc1
 cases hc1
 have ev:aL=some ⟨gL,0,none⟩:=by have:=hv;simp only [Value.slice.injEq] at this;exact this.1
 subst ev
 have CTy:=jH (rtypeOf_any U4 (HSF.out.bel (jB HB.out HB4.out)) gL 0 l nl cL xa xn xcap (HPA.out.bel (jB HB.out HB4.out)) HP8.out hlt hl5 (by rw [Nat.zero_add];exact hC5) (hOw.ty HRG.out) HOK.out HWY.out HOD.out)
 obtain ⟨u0,u1,u2⟩:=(A2.out.below HB4.out).un
 obtain ⟨x0,x1⟩:=(A5.out.below HB4.out).pl
 obtain ⟨d0,d1,d2,d3,d4⟩:=A10.out.rg
 have hl10:=A10.out.lt
 clear hv hgl hgB hf1 hC5 hOw
 go_wp2_with (go_at_call 46;refine CTy.out.mono ?_;rintro e w3 ⟨f2,rfl,hN⟩;clear u0 u1 u2 x0 x1 d0 d1 d2 d3 d4 hl10;have B4:=(A6.out.below HB4.out).below hN.bel;have g0:=B4.tyF 0;have g1:=B4.tyF 1;have g2:=B4.tyF 2;have g3:=B4.tyF 3;have g4:=B4.tyF 4;obtain ⟨hl4,q0,q1,q2,q3,q4⟩:=B4.ty;simp only [Nat.zero_add] at q0 q1 q2 q3 q4)
 obtain ⟨F1,F2⟩:=new_store hN (jB HB.out HB4.out) (b:=w.heap.size+1+1) (by omega) (A6.out.below HB4.out).lt B4
 exact bodyPost_ret (results_c2 (g:=f2) Tryz.results17 rfl rfl F1) rfl ⟨f2,rfl,F2⟩
end Go.Proofs.YtdlggpcakaofoaaGreat
