import Derived.Test.YtdlggpcakaofoaaGreatB35
namespace Go.Proofs.YtdlggpcakaofoaaGreat
open Go.RowKit Go.Shelf
set_option linter.unusedVariables false
set_option linter.unusedSimpArgs false
set_option maxRecDepth 100000
set_option maxHeartbeats 4000000
theorem pwayC_ok {w:World} {a:Option Addr} {n cap:Nat} {fc:Nat→List Ch} (h:SF w a n cap fc):∀ (p:List Int) (c d:Ch) (gs:List Int),c.ok n→wayC fc c p=some (d,gs)→d.ok n∧gs.length=p.length∧∀ g∈gs,0≤g∧g≤3
 | [],c,d,gs,hc,hw=>by
  cases hw
  exact ⟨hc,rfl,fun g hg=>by simp at hg⟩
 | s::p,c,d,gs,hc,hw=>by
  rw [wayC,Option.bind_eq_some_iff] at hw
  obtain ⟨⟨c1,g1⟩,h1,h2⟩:=hw
  rw [Option.map_eq_some_iff] at h2
  obtain ⟨⟨d',gs'⟩,h3,h4⟩:=h2
  cases h4
  obtain ⟨k1,k2⟩:=stepC_ok h hc h1
  obtain ⟨e1,e2,e3⟩:=pwayC_ok h p c1 _ _ k1 h3
  refine ⟨e1,by simp [e2],fun g hg=>?_⟩
  rcases List.mem_cons.1 hg with rfl|hg
  ·exact k2
  ·exact e3 g hg
theorem wyX_ok {w:World} {a la:Option Addr} {n cap ln lcap:Nat} {ok:Bool} {fc:Nat→List Ch} {cl:List Ch} (hC:Cx w a la n cap ln lcap ok fc cl) {l:Int} {p:List Int} {c:Ch} {gs:List Int} (h:wyX ok fc cl l p=some (c,gs)):c.ok n∧n≤32∧gs.length=p.length∧p.length≤8∧(∀ g∈gs,0≤g∧g≤3)∧0≤l∧ok=true:=by
 unfold wyX at h
 split at h
 ·rename_i hok
  unfold wayP at h
  split at h
  ·rename_i hl
   rw [Option.bind_eq_some_iff] at h
   obtain ⟨c0,h1,h2⟩:=h
   obtain ⟨e1,e2,e3⟩:=pwayC_ok (hC.sf hok) p c0 c gs ((hC.lf hok).ok c0 (List.mem_of_getElem? h1)) h2
   exact ⟨e1,(hC.sf hok).le,e2,hl.2,e3,hl.1,hok⟩
  ·cases h
 ·cases h
theorem Tryz.results67:Tryz.f67.results=#[.cell 6 46,.tmp 7]:=rfl
theorem new_store {W w1 w2:World} {b:Nat} {f' f0:Fv} {c:Ch} (hN:New w1 w2 f' c) (hB:Below W.heap.size W w1) (hb:W.heap.size≤b) (hb1:b<w1.heap.size) (hA:At w2 b f0.o):C5 (S5 w2 b f') b 0 f'∧New W (S5 w2 b f') f' c:=by
 refine ⟨(hA.set5 f').ty,⟨?_,below_S5 (jB hB hN.bel) hb f'⟩⟩
 have h1:OwnL (S5 w2 b f') w1.heap.size w2.heap.size f' c:=hN.own.keep fun g o h1 h2 hg=>hg.S5 (by omega) f'
 exact h1.low hB.size (by rw [size_S5];exact Nat.le_refl _)
theorem ps_three {W:World} {x:Pt} {o:Obj} {p:List Int} (h:PAt W x p):PsAt (((W.alloc x.o).alloc o).alloc x.o) (W.heap.size+2) [(x,p)] where
 lt:=by simp
 cells:=fun i x' p' hi=>by
  have hi0:i=0:=by
   have:=(List.getElem?_eq_some_iff.1 hi).1
   simp at this
   omega
  subst hi0
  simp at hi
  obtain ⟨rfl,rfl⟩:=hi
  have hA:At (((W.alloc x.o).alloc o).alloc x.o) (W.heap.size+2) x.o:=by
   have:=At.new ((W.alloc x.o).alloc o) x.o
   simpa only [World.size_alloc] using this
  exact ⟨hA.pl.1,hA.pl.2,h.bel (belA (belA (belA bR)))⟩
theorem bel3 {w:World} {o1 o2 o3:Obj}:Below w.heap.size w (((w.alloc o1).alloc o2).alloc o3):=belA (belA (belA bR))
theorem below3 {w w1:World} {o1 o2 o3:Obj} (hb:Below (((w.alloc o1).alloc o2).alloc o3).heap.size (((w.alloc o1).alloc o2).alloc o3) w1):Below w.heap.size w w1:=jB bel3 hb
def TypePost (R:Option (Ch × List Int)) (W w':World) (e:Ending):Prop:=match R with
 | some z=>∃ f':Fv,e=.returned (.tuple #[f'.v,.int .i64 0])∧New W w' f' z.1
 | none=>e=.returned (.tuple #[zT.v,.int .i64 2])
theorem Type_any {w W:World} (hW:Below w.heap.size w W) {a la:Option Addr} {n cap ln lcap:Nat} {ok:Bool} {fc:Nat→List Ch} {cl:List Ch} (hC:Cx w a la n cap ln lcap ok fc cl) {x:Pt} {p:List Int} (hP:PAt W x p) (R:Option (Ch × List Int)) (hR:R=wyX ok fc cl x.l p) (hd:∀ z,R=some z→z.1.depth≤48) :
  Calls Tryz.prog 67 #[.slice a n cap,.slice la ln lcap,x.v] W fun e w'=>TypePost R W w' e∧Below W.heap.size W w':=by
 have C:=jH (follow_one (jB hW bel3) hC (ps_three (o:=zT.o) hP))
 rw [← hR] at C
 have HA6:Hid (At (((W.alloc x.o).alloc zT.o).alloc x.o) (W.heap.size+1) zT.o):=(at_snd W x.o zT.o).alloc _
 obtain ⟨l,pa,m,pcap⟩:=x
 show Calls Tryz.prog 67 #[.slice a n cap,.slice la ln lcap,plV l pa m pcap] W _
 cases R with
 | none =>
  have C2:Hid (Calls Tryz.prog 89 #[.slice a n cap,.slice la ln lcap,.slice (some ⟨W.heap.size+2,0,none⟩) 1 1] (((W.alloc (plO l pa m pcap)).alloc zT.o).alloc (plO l pa m pcap)) fun e w'=>e=.returned (.tuple #[.slice none 0 0,.int .i64 2])∧Below (((W.alloc (plO l pa m pcap)).alloc zT.o).alloc (plO l pa m pcap)).heap.size (((W.alloc (plO l pa m pcap)).alloc zT.o).alloc (plO l pa m pcap)) w'):=C.out
  clear C hC hP hR hd
  go_enter Tryz.func67,Tryz.ntmps67
  go_wp2_with (first
   | (go_at_call 89;refine C2.out.mono ?_;rintro e w1 ⟨rfl,hb1⟩;have HB1:=jH (below3 hb1);have HA1:=jH (HA6.out.below hb1);clear hb1)
   | ((with_reducible show wpList _ _ _ (Oper.mk none (Op.store 46 _ _) _ _ _ none::_) _ _);refine wpl_storeT (W.heap.size+1) zT zT HA1.out rfl rfl ?_;intro w9 hw9;have F9:Hid (C5 w9 (W.heap.size+1) 0 zT∧Below W.heap.size W w9):=(by rw [hw9];exact ⟨(HA1.out.set5 zT).ty,below_S5 HB1.out (by omega) zT⟩);clear hw9))
  exact bodyPost_ret (results_c2 (g:=zT) Tryz.results67 rfl rfl F9.out.1) rfl ⟨rfl,F9.out.2⟩
 | some z =>
  obtain ⟨c,gs⟩:=z
  have C2:Hid (Calls Tryz.prog 89 #[.slice a n cap,.slice la ln lcap,.slice (some ⟨W.heap.size+2,0,none⟩) 1 1] (((W.alloc (plO l pa m pcap)).alloc zT.o).alloc (plO l pa m pcap)) fun e w'=>(∃ g2 cap2 y,e=.returned (.tuple #[.slice (some ⟨g2,0,none⟩) 1 cap2,.int .i64 0])∧C5 w' g2 0 y.f∧w'.cell? ⟨g2,5,none⟩=some (.slice y.ga y.gn y.gcap)∧WayIs w (((W.alloc (plO l pa m pcap)).alloc zT.o).alloc (plO l pa m pcap)) w' y c gs)∧Below (((W.alloc (plO l pa m pcap)).alloc zT.o).alloc (plO l pa m pcap)).heap.size (((W.alloc (plO l pa m pcap)).alloc zT.o).alloc (plO l pa m pcap)) w'):=C.out
  have hok:=wyX_ok hC hR.symm
  have HOK:Hid (Ok c):=⟨Ch.ok_mono (by have:=hok.2.1;omega) c hok.1,hd _ rfl⟩
  have HW:=jH hW
  clear C hC hP hR hd hok hW
  go_enter Tryz.func67,Tryz.ntmps67
  go_wp2_with (first
   | (go_at_call 89;refine C2.out.mono ?_;rintro e w1 ⟨⟨g2,cap2,y,rfl,hc5,hc6,hwy⟩,hb1⟩;have HB1:=jH (below3 hb1);have HA1:=jH (HA6.out.below hb1);have HTY:=jH (hwy.ty.bel (jB HW.out (below3 hb1)));clear hb1 hwy hc6;obtain ⟨hl2,q0,q1,q2,q3,q4⟩:=hc5;simp only [Nat.zero_add] at q0 q1 q2 q3 q4;have CO:=jH (Own_yes c y.f w1 HOK.out HTY.out))
   | (go_at_call 54;refine CO.out.mono ?_;rintro e w2 ⟨f',rfl,hN⟩;have HN:=jH hN;have HA2:=jH (HA1.out.below hN.bel);clear hN)
   | ((with_reducible show wpList _ _ _ (Oper.mk none (Op.store 46 _ _) _ _ _ none::_) _ _);refine wpl_storeT (W.heap.size+1) zT f' HA2.out rfl rfl ?_;intro w9 hw9;have F9:Hid (C5 w9 (W.heap.size+1) 0 f'∧New W w9 f' c):=(by rw [hw9];exact new_store HN.out HB1.out (by omega) HA1.out.lt HA2.out);clear hw9))
  exact bodyPost_ret (results_c2 (g:=f') Tryz.results67 rfl rfl F9.out.1) rfl ⟨⟨f',rfl,F9.out.2⟩,F9.out.2.bel⟩
theorem ptB_call {x:Sc} {p:Pnt} (h:x.ptB p=true) (h7:p.op=7):0≤p.fn∧p.fn.toNat<x.hs.length:=by
 unfold Sc.ptB at h
 simp only [Bool.and_eq_true] at h
 have h2:=h.2
 split at h2
 ·unfold Sc.opB at h2
  simp only [h7] at h2
  simp at h2
  obtain ⟨e1,e2⟩:=h2
  refine ⟨e1,?_⟩
  split at e2
  ·rename_i hh
   exact (List.getElem?_eq_some_iff.1 hh).1
  ·cases e2
 ·cases h2
theorem rgIn_of {w:World} {ua:Option Addr} {un n:Nat} {mn:Int} {ss:List (List Ty)} {so:Bool} {gs:List Grp} (hU:UnAt w ua un gs) (hok:UOk ss n so un mn gs) {j:Nat} {g:Grp} (hg:gs[j]?=some g):∃ cl,RgIn w ua un gs j g cl∧HdOk n (isMn mn j) g cl:=by
 obtain ⟨fc,hs,xs,hX,hP⟩:=hok.pt
 obtain ⟨cl,hH,hhs,hxs⟩:=hX.at_ j g hg
 have hu:=hok.un
 unfold unitB at hu
 simp only [Bool.and_eq_true,decide_eq_true_iff] at hu
 have hlen:=hU.len
 have hjl:j<gs.length:=(List.getElem?_eq_some_iff.1 hg).1
 obtain ⟨c1,c2,c3,c4,c5,c6,c7,c8,c9⟩:=cnt_parts hH.cnt
 have hll:g.lo.length=cl.length:=by rw [hH.lo,List.length_map]
 refine ⟨cl,⟨hu.1.1.2,by omega,?_,fun c hc=>(hH.ok c hc).2,c1,c2,by omega,c9,fun p hp h7=>?_⟩,hH⟩
 ·obtain ⟨ug,uo,nm,lv,oa,on,oc,pa,la,ln,lc,na,nn,nc,qa,qn,qc,ea,hC7,hG⟩:=hU.at_ j g hg
  have e:=hG.lv
  subst e
  exact ⟨ug,uo,nm,oa,on,oc,pa,la,ln,lc,na,nn,nc,qa,qn,qc,ea,hC7,by rw [← hH.lo];exact hG.lo,hG.pt⟩
 ·obtain ⟨p0,p1⟩:=ptB_call (hP j _ _ hxs p hp) h7
  have p2:p.fn.toNat<gs.length:=by rw [← hX.l1];exact p1
  obtain ⟨g',hg'⟩:∃ g',gs[p.fn.toNat]?=some g':=⟨_,List.getElem?_eq_getElem p2⟩
  obtain ⟨cl',hH',-,-⟩:=hX.at_ _ g' hg'
  obtain ⟨d1,d2,-⟩:=cnt_parts hH'.cnt
  refine ⟨p.fn.toNat,g',by omega,by omega,hg',d1,d2,fun ug uo eu=>?_⟩
  obtain ⟨ug',uo',nm,lv,oa,on,oc,pa,la,ln,lc,na,nn,nc,qa,qn,qc,ea,hC7,hG⟩:=hU.at_ _ g' hg'
  rw [eu] at ea
  cases ea
  refine ⟨hC7.1,?_⟩
  rw [← hG.lv]
  exact hC7.cells.2.1
structure UG1 (w:World) (a ua:Option Addr) (n cap un ucap:Nat) (mn:Int) (gs:List Grp) (j:Nat) (g:Grp) (cl:List Ch) (fc:Nat→List Ch):Prop where
 may:∀ W,Below w.heap.size w W→Calls Tryz.prog 32 #[uV a n cap ua un ucap mn] W fun e w'=>e=.returned (.bool true)∧Below W.heap.size W w'
 rg:RgIn w ua un gs j g cl
 gj:gs[j]?=some g
theorem RgIn.bel {w W:World} {ua:Option Addr} {un:Nat} {gs:List Grp} {j:Nat} {g:Grp} {cl:List Ch} (h:RgIn w ua un gs j g cl) (hW:Below w.heap.size w W):RgIn W ua un gs j g cl:=by
 obtain ⟨ug,uo,nm,oa,on,oc,pa,la,ln,lc,na,nn,nc,qa,qn,qc,ea,hC7,hLc,hPs⟩:=h.ex
 refine ⟨h.un32,h.jn,⟨ug,uo,nm,oa,on,oc,pa,la,ln,lc,na,nn,nc,qa,qn,qc,ea,hC7.bel hW,hLc.bel hW,hPs.bel hW⟩,h.ok,h.lv0,h.lv8,h.cln,h.ptn,fun p hp h7=>?_⟩
 obtain ⟨j',g',h1,h2,h3,h4,h5,h6⟩:=h.call p hp h7
 refine ⟨j',g',h1,h2,h3,h4,h5,fun ug uo e=>?_⟩
 obtain ⟨k1,k2⟩:=h6 ug uo e
 exact ⟨Nat.lt_of_lt_of_le k1 hW.size,(hW.cell (p:=⟨ug,uo+j'*7+1,none⟩) k1).trans k2⟩
theorem UG1.bel {w W:World} {a ua:Option Addr} {n cap un ucap:Nat} {mn:Int} {gs:List Grp} {j:Nat} {g:Grp} {cl:List Ch} {fc:Nat→List Ch} (h:UG1 w a ua n cap un ucap mn gs j g cl fc) (hW:Below w.heap.size w W):UG1 W a ua n cap un ucap mn gs j g cl fc:=⟨fun V hV=>h.may V (jB hW hV),h.rg.bel hW,h.gj⟩
theorem isGraph_yes {w:World} {a ua:Option Addr} {n cap un ucap:Nat} {mn:Int} {gs:List Grp} {j:Nat} {g:Grp} {cl:List Ch} {fc:Nat→List Ch} (h:UG1 w a ua n cap un ucap mn gs j g cl fc):Calls Tryz.prog 42 #[uV a n cap ua un ucap mn,.int .i64 (j:Int)] w fun e w'=>e=.returned (.bool true)∧Below w.heap.size w w':=by
 have CM:=jH (h.may (w.alloc (uO a n cap ua un ucap mn)) (belA bR))
 have j0:(0:Int)≤(j:Int):=by omega
 have j1:(j:Int)<(un:Int):=by have:=h.rg.jn;omega
 have u32:(un:Int)≤32:=by have:=h.rg.un32;omega
 clear h
 go_enter Tryz.func42,Tryz.ntmps42
 go_wp2_with (go_at_call 32;refine CM.out.mono ?_;rintro e w5 ⟨rfl,hb5⟩;have HB5:=jH (below1 hb5);clear hb5)
 go_ret
 exact ⟨rfl,HB5.out⟩
theorem Tryz.results11:Tryz.f11.results=#[.cell 4 35,.tmp 5]:=rfl
theorem wpl_storeR {w:World} {ops:Array Oper} {rest:List Oper} {a9:Act} {Q:Exit→Act→World→Prop} {x y:Nat} {ty:TypeId} {pos:String} {after:Array Edge} (b:Nat) {l0 n0 c0:Int} {v0 v1:Value} (lv np cn:Int) (aL:Option Addr) (i cL:Nat) (aA:Option Addr) (q cA:Nat) (hA:At w b (rgO l0 n0 c0 v0 v1))
  (hx:a9.eval (.tmp x)=.pointer (some ⟨b,0,none⟩)) (hy:a9.eval (.tmp y)=rgV lv np cn (.slice aL i cL) (.slice aA q cA))
  (h:∀ w',At w' b (rgO lv np cn (.slice aL i cL) (.slice aA q cA))→But b w w'→wpList Tryz.prog ops Q rest a9 w'):wpList Tryz.prog ops Q (⟨none,.store 35 (.tmp x) (.tmp y),ty,pos,after,none⟩::rest) a9 w:=by
 refine wpList_store_mid rfl 35 (.tmp x) (.tmp y) rfl b 0 _ hx hy (fun j hj=>?_) (by kernel_rfl) (by simp [Value.oneCell']) ?_
 ·unfold At at hA
  refine ⟨?_,frozen_of_row _ _ _ _ _ hA⟩
  rw [cell_of_row _ _ _ _ _ _ hA,Nat.zero_add]
  have:j<5:=hj
  simp [this]
 ·exact h _ (hA.set5R lv np cn aL i cL aA q cA) (but_s5r w b lv np cn aL i cL aA q cA)
structure RgIs (w w':World) (gs:List Grp) (g:Grp) (cl:List Ch) (aL:Option Addr) (cL:Nat) (aA:Option Addr) (cA:Nat):Prop where
 row:∃ fl lo hi,FRow w' w.heap.size (.slice aL cl.length cL) (numR g.lv cl) fl lo hi
 ats:w'.ownsRow w.heap.size 3 1 (.slice aA g.pt.length cA) g.pt.length (iCells (atR gs (cntL g.lv cl) g.pt))
theorem FRow.but {W W':World} {B b:Nat} {v:Value} {cs:List Ch} {fl:List Fv} {lo hi:Nat→Nat} (h:FRow W B v cs fl lo hi) (k:But b W W') (hb:b<B):FRow W' B v cs fl lo hi:=h.grow k (fun x e=>by cases e;exact hb)
theorem RgIs.bel {w w1 w2:World} {gs:List Grp} {g:Grp} {cl:List Ch} {aL:Option Addr} {cL:Nat} {aA:Option Addr} {cA:Nat} (h:RgIs w w1 gs g cl aL cL aA cA) (k:Below w1.heap.size w1 w2):RgIs w w2 gs g cl aL cL aA cA:=by
 obtain ⟨fl,lo,hi,hr⟩:=h.row
 exact ⟨⟨fl,lo,hi,hr.bel k⟩,own_bel h.ats k⟩
theorem RgIs.but {w w1 w2:World} {b:Nat} {gs:List Grp} {g:Grp} {cl:List Ch} {aL:Option Addr} {cL:Nat} {aA:Option Addr} {cA:Nat} (h:RgIs w w1 gs g cl aL cL aA cA) (k:But b w1 w2) (hb:b<w.heap.size):RgIs w w2 gs g cl aL cL aA cA:=by
 obtain ⟨fl,lo,hi,hr⟩:=h.row
 exact ⟨⟨fl,lo,hi,hr.but k hb⟩,own_grow h.ats k (fun x e=>by have:=own_lo h.ats x e;intro e2;cases e2;omega)⟩
theorem RgIs.low {w w0 w1:World} {gs:List Grp} {g:Grp} {cl:List Ch} {aL:Option Addr} {cL:Nat} {aA:Option Addr} {cA:Nat} (h:RgIs w w1 gs g cl aL cL aA cA) (hb:w0.heap.size≤w.heap.size):RgIs w0 w1 gs g cl aL cL aA cA:=by
 obtain ⟨fl,lo,hi,hr⟩:=h.row
 exact ⟨⟨fl,lo,hi,hr.low hb⟩,own_low h.ats hb⟩
theorem Of_yes {w:World} {a ua:Option Addr} {n cap un ucap:Nat} {mn:Int} {gs:List Grp} {j:Nat} {g:Grp} {cl:List Ch} {fc:Nat→List Ch} (h:UG1 w a ua n cap un ucap mn gs j g cl fc) (hc:cntP gs (cntL g.lv cl) g.pt≤512) :
  Calls Tryz.prog 11 #[uV a n cap ua un ucap mn,.int .i64 (j:Int)] w fun e w'=>∃ aL cL aA cA,e=.returned (.tuple #[rgV g.lv g.pt.length (cntP gs (cntL g.lv cl) g.pt) (.slice aL cl.length cL) (.slice aA g.pt.length cA),.int .i64 0])∧RgIs w w' gs g cl aL cL aA cA∧Below w.heap.size w w':=by
 obtain ⟨V,hV⟩:∃ V,V=(w.alloc (uO a n cap ua un ucap mn)).alloc (rgO 0 0 0 (.slice none 0 0) (.slice none 0 0)):=⟨_,rfl⟩
 have hB:Below w.heap.size w V:=by rw [hV];exact belA (belA bR)
 have A2:Hid (At V w.heap.size (uO a n cap ua un ucap mn)):=jH (by rw [hV];exact (At.new _ _).alloc _)
 have A4:Hid (At V (w.heap.size+1) (rgO 0 0 0 (.slice none 0 0) (.slice none 0 0))):=jH (by rw [hV];exact at_snd _ _ _)
 have hz:Hid (V.heap.size=w.heap.size+2):=jH (by rw [hV];simp only [World.size_alloc])
 have CG:=jH (isGraph_yes (h.bel hB))
 have CR:Hid (∀ W,Below V.heap.size V W→Calls Tryz.prog 43 #[uV a n cap ua un ucap mn,.int .i64 (j:Int)] W fun e w'=>(∃ aL cL aA cA,e=.returned (.tuple #[rgV g.lv g.pt.length (cntP gs (cntL g.lv cl) g.pt) (.slice aL cl.length cL) (.slice aA g.pt.length cA),.int .i64 0])∧RgIs W w' gs g cl aL cL aA cA)∧Below W.heap.size W w'):=jH fun W hW=>(regionsOf_any (a:=a) (n:=n) (cap:=cap) ucap mn (h.rg.bel (jB hB hW))).mono fun e w' k=>by
  obtain ⟨aL,cL,aA,cA,fl,lo,hi,h1,h2,h3⟩:=k.1.1 hc
  exact ⟨⟨aL,cL,aA,cA,h1,⟨⟨fl,lo,hi,h2⟩,h3⟩⟩,k.2⟩
 have HB:=jH hB
 have HV:=jH hV
 obtain ⟨lv,hlv⟩:∃ lv,lv=g.lv:=⟨_,rfl⟩
 obtain ⟨np,hnp⟩:∃ np,np=g.pt.length:=⟨_,rfl⟩
 obtain ⟨nl,hnl⟩:∃ nl,nl=cl.length:=⟨_,rfl⟩
 obtain ⟨cn,hcn⟩:∃ cn,cn=cntP gs (cntL g.lv cl) g.pt:=⟨_,rfl⟩
 rw [← hcn,← hlv,← hnp,← hnl] at CR
 rw [← hcn,← hlv,← hnp,← hnl]
 clear h hc hB hV hlv hnp hnl hcn
 go_enter Tryz.func11,Tryz.ntmps11
 go_upto_region 1 with fail
 change Code.wp _ _ _ _ ((w.alloc (uO a n cap ua un ucap mn)).alloc (rgO 0 0 0 (.slice none 0 0) (.slice none 0 0)))
 rw [← HV.out]
 clear HV
 obtain ⟨u0,u1,u2⟩:=A2.out.un
 go_wp2_with (first
  | (go_at_call 42;refine CG.out.mono ?_;rintro e w1 ⟨rfl,hb1⟩;have HB1:=jH hb1;clear u0 u1 u2;obtain ⟨u0,u1,u2⟩:=(A2.out.below hb1).un;clear hb1)
  | (go_at_call 43;refine (CR.out w1 HB1.out).mono ?_;rintro e w2 ⟨⟨aL,cL,aA,cA,rfl,hR⟩,hb2⟩;have HR:=jH hR;have HB2:=jH (jB HB1.out hb2);have HA4:=jH ((A4.out.below HB1.out).below hb2);clear hb2 hR u0 u1 u2)
  | ((with_reducible show wpList _ _ _ (Oper.mk none (Op.store 35 _ _) _ _ _ none::_) _ _);refine wpl_storeR (w.heap.size+1) lv np cn aL nl cL aA np cA HA4.out rfl rfl ?_;intro w9 h9 hb9;have H9:=jH h9;have HB9:=jH hb9;clear h9 hb9))
 have s1:=HB1.out.size
 have s2:=hz.out
 exact bodyPost_ret (results_r2 (v:=.int .i64 0) (lv:=lv) (np:=np) (cn:=cn) (vL:=.slice aL nl cL) (vA:=.slice aA np cA) Tryz.results11 rfl rfl H9.out) rfl ⟨aL,cL,aA,cA,rfl,((HR.out.but HB9.out (by omega)).low (by omega)),(jB HB.out HB2.out).grown HB9.out (by have:=HB2.out.size;have:=HB.out.size;omega) (fun k e=>by cases e;omega)⟩
theorem Tryz.results50:Tryz.f50.results=#[.cell 8 35,.tmp 9]:=rfl
structure PtOf (w:World) (ua:Option Addr) (j q:Nat) (p:Pnt) (ug uo:Nat) (qa:Option Addr) (qn qc pg po:Nat) (pv:Pv):Prop where
 eu:ua=some ⟨ug,uo,none⟩
 ul:ug<w.heap.size
 c6:w.cell? ⟨ug,uo+j*7+6,none⟩=some (.slice qa qn qc)
 eq:qa=some ⟨pg,po,none⟩
 pl:pg<w.heap.size
 rng:w.rangeAt pg (po+q*21) (pC pv)
 pt:PntAt w pv p
 qn5:qn≤1024
 ql:q<qn
theorem PtOf.bel {w W:World} {ua:Option Addr} {j q:Nat} {p:Pnt} {ug uo:Nat} {qa:Option Addr} {qn qc pg po:Nat} {pv:Pv} (h:PtOf w ua j q p ug uo qa qn qc pg po pv) (hW:Below w.heap.size w W):PtOf W ua j q p ug uo qa qn qc pg po pv:=⟨h.eu,Nat.lt_of_lt_of_le h.ul hW.size,(hW.cell (p:=⟨ug,uo+j*7+6,none⟩) h.ul).trans h.c6,h.eq,Nat.lt_of_lt_of_le h.pl hW.size,rng_bel h.pl h.rng hW,h.pt.bel hW,h.qn5,h.ql⟩
theorem ptOf_ex {w:World} {a ua:Option Addr} {n cap un ucap:Nat} {mn:Int} {gs:List Grp} {j:Nat} {g:Grp} {cl:List Ch} {fc:Nat→List Ch} (h:UG1 w a ua n cap un ucap mn gs j g cl fc) {q:Nat} {p:Pnt} (hp:g.pt[q]?=some p):∃ ug uo qa qn qc pg po pv,PtOf w ua j q p ug uo qa qn qc pg po pv:=by
 obtain ⟨ug,uo,nm,oa,on,oc,pa,la,ln,lc,na,nn,nc,qa,qn,qc,ea,hC7,hLc,hPs⟩:=h.rg.ex
 obtain ⟨pg,po,pv,ep,hpg,hrng,hpnt⟩:=hPs.at_ q p hp
 exact ⟨ug,uo,qa,qn,qc,pg,po,pv,ea,hC7.1,hC7.cells.2.2.2.2.2.2,ep,hpg,hrng,hpnt,by have:=h.rg.ptn;have:=hPs.len;omega,by have:=(List.getElem?_eq_some_iff.1 hp).1;have:=hPs.len;omega⟩
theorem maker_yes {w:World} {a ua:Option Addr} {n cap un ucap:Nat} {mn:Int} {gs:List Grp} {j:Nat} {g:Grp} {cl:List Ch} {fc:Nat→List Ch} (h:UG1 w a ua n cap un ucap mn gs j g cl fc) (hc:cntP gs (cntL g.lv cl) g.pt≤512) {q:Nat} {p:Pnt} (hp:g.pt[q]?=some p) (o:Nat) (ho:p.op=o) :
  Calls Tryz.prog 50 #[uV a n cap ua un ucap mn,.int .i64 (j:Int),.int .i64 (q:Int),.int .u8 (o:Int)] w fun e w'=>∃ aL cL aA cA,e=.returned (.tuple #[rgV g.lv g.pt.length (cntP gs (cntL g.lv cl) g.pt) (.slice aL cl.length cL) (.slice aA g.pt.length cA),.int .i64 0])∧RgIs w w' gs g cl aL cL aA cA∧Below w.heap.size w w':=by
 obtain ⟨ug,uo,qa,qn,qc,pg,po,pv,hPt⟩:=ptOf_ex h hp
 obtain ⟨V,hV⟩:∃ V,V=(w.alloc (uO a n cap ua un ucap mn)).alloc (rgO 0 0 0 (.slice none 0 0) (.slice none 0 0)):=⟨_,rfl⟩
 have hB:Below w.heap.size w V:=by rw [hV];exact belA (belA bR)
 have A2:Hid (At V w.heap.size (uO a n cap ua un ucap mn)):=jH (by rw [hV];exact (At.new _ _).alloc _)
 have A4:Hid (At V (w.heap.size+1) (rgO 0 0 0 (.slice none 0 0) (.slice none 0 0))):=jH (by rw [hV];exact at_snd _ _ _)
 have hz:Hid (V.heap.size=w.heap.size+2):=jH (by rw [hV];simp only [World.size_alloc])
 have CG:=jH (isGraph_yes (h.bel hB))
 have CR:Hid (∀ W,Below V.heap.size V W→Calls Tryz.prog 43 #[uV a n cap ua un ucap mn,.int .i64 (j:Int)] W fun e w'=>(∃ aL cL aA cA,e=.returned (.tuple #[rgV g.lv g.pt.length (cntP gs (cntL g.lv cl) g.pt) (.slice aL cl.length cL) (.slice aA g.pt.length cA),.int .i64 0])∧RgIs W w' gs g cl aL cL aA cA)∧Below W.heap.size W w'):=jH fun W hW=>(regionsOf_any (a:=a) (n:=n) (cap:=cap) ucap mn (h.rg.bel (jB hB hW))).mono fun e w' k=>by
  obtain ⟨aL,cL,aA,cA,fl,lo,hi,h1,h2,h3⟩:=k.1.1 hc
  exact ⟨⟨aL,cL,aA,cA,h1,⟨⟨fl,lo,hi,h2⟩,h3⟩⟩,k.2⟩
 have HPT:Hid (∀ W,Below w.heap.size w W→ug<W.heap.size∧W.cell? ⟨ug,uo+j*7+6,none⟩=some (.slice (some ⟨pg,po,none⟩) qn qc)∧pg<W.heap.size∧W.cell? ⟨pg,po+q*21,none⟩=some (.int .u8 (p.op:Int))):=jH fun W hW=>by
  have k:=hPt.bel hW
  refine ⟨k.ul,by rw [← k.eq];exact k.c6,k.pl,?_⟩
  have:=k.rng 0 _ rfl
  rw [k.pt.op] at this
  exact this
 have eu:=hPt.eu
 subst eu
 have j0:(0:Int)≤(j:Int):=by omega
 have j1:(j:Int)<(un:Int):=by have:=h.rg.jn;omega
 have u32:(un:Int)≤32:=by have:=h.rg.un32;omega
 have q0:(0:Int)≤(q:Int):=by omega
 have q1:(q:Int)<(qn:Int):=by have:=hPt.ql;omega
 have q3:¬ ((qn:Int)≤(q:Int)):=by omega
 have q2:(qn:Int)≤1024:=by have:=hPt.qn5;omega
 have HB:=jH hB
 have HV:=jH hV
 obtain ⟨lv,hlv⟩:∃ lv,lv=g.lv:=⟨_,rfl⟩
 obtain ⟨np,hnp⟩:∃ np,np=g.pt.length:=⟨_,rfl⟩
 obtain ⟨nl,hnl⟩:∃ nl,nl=cl.length:=⟨_,rfl⟩
 obtain ⟨cn,hcn⟩:∃ cn,cn=cntP gs (cntL g.lv cl) g.pt:=⟨_,rfl⟩
 rw [← hcn,← hlv,← hnp,← hnl] at CR
 rw [← hcn,← hlv,← hnp,← hnl]
 obtain ⟨op,hop⟩:∃ op,op=p.op:=⟨_,rfl⟩
 rw [← hop] at HPT ho
 have ho1:((op:Int) == (o:Int))=true:=by simp;omega
 subst ho
 clear h hc hB hV hlv hnp hnl hcn hPt hp hop
 go_enter Tryz.func50,Tryz.ntmps50
 go_upto_region 1 with fail
 change Code.wp _ _ _ _ ((w.alloc (uO a n cap (some ⟨ug,uo,none⟩) un ucap mn)).alloc (rgO 0 0 0 (.slice none 0 0) (.slice none 0 0)))
 rw [← HV.out]
 clear HV
 obtain ⟨u0,u1,u2⟩:=A2.out.un
 go_upto_region 4 with (first
  | (go_at_call 42;refine CG.out.mono ?_;rintro e w1 ⟨rfl,hb1⟩;have HB1:=jH hb1;clear u0 u1 u2;obtain ⟨u0,u1,u2⟩:=(A2.out.below hb1).un;obtain ⟨x1,x2,x3,x4⟩:=HPT.out _ (jB HB.out hb1);clear hb1)
  | (go_at_call 43;refine (CR.out w1 HB1.out).mono ?_;rintro e w2 ⟨⟨aL,cL,aA,cA,rfl,hR⟩,hb2⟩;have HR:=jH hR;have HB2:=jH (jB HB1.out hb2);have HA4:=jH ((A4.out.below HB1.out).below hb2);have HS2:=jH hb2.size;clear hb2 hR u0 u1 u2 x1 x2 x3 x4))
 have A10:Hid (At (w2.alloc (rgO lv np cn (.slice aL nl cL) (.slice aA np cA))) w2.heap.size (rgO lv np cn (.slice aL nl cL) (.slice aA np cA))):=jH (At.new _ _)
 have A43:=jH (HA4.out.alloc (rgO lv np cn (.slice aL nl cL) (.slice aA np cA)))
 have A23:=jH ((A2.out.below HB2.out).alloc (rgO lv np cn (.slice aL nl cL) (.slice aA np cA)))
 have HB3:=jH (belA (jB HB.out HB2.out) (o:=rgO lv np cn (.slice aL nl cL) (.slice aA np cA)))
 have HR3:=jH (HR.out.bel (belA bR (o:=rgO lv np cn (.slice aL nl cL) (.slice aA np cA))))
 have HS1:=jH HB1.out.size
 obtain ⟨b10,hb10⟩:∃ b10,b10=w2.heap.size:=⟨_,rfl⟩
 rw [← hb10] at A10 HS2 ⊢
 generalize (w2.alloc (rgO lv np cn (.slice aL nl cL) (.slice aA np cA)))=U at A10 A43 A23 HB3 HR3 ⊢
 clear HA4 HR HB2 A2 A4 CG CR hb10
 obtain ⟨u0,u1,u2⟩:=A23.out.un
 obtain ⟨x1,x2,x3,x4⟩:=HPT.out _ HB3.out
 obtain ⟨d0,d1,d2,d3,d4⟩:=A10.out.rg
 have hl10:=A10.out.lt
 have s2:=hz.out
 have s3:=HS1.out
 go_wp2_with ((with_reducible show wpList _ _ _ (Oper.mk none (Op.store 35 _ _) _ _ _ none::_) _ _);refine wpl_storeR (w.heap.size+1) lv np cn aL nl cL aA np cA A43.out rfl rfl ?_;intro w9 h9 hb9;have H9:=jH h9;have HB9:=jH hb9;clear h9 hb9)
 exact bodyPost_ret (results_r2 (v:=.int .i64 0) (lv:=lv) (np:=np) (cn:=cn) (vL:=.slice aL nl cL) (vA:=.slice aA np cA) Tryz.results50 rfl rfl H9.out) rfl ⟨aL,cL,aA,cA,rfl,((HR3.out.but HB9.out (by omega)).low (by omega)),HB3.out.grown HB9.out HB3.out.size (fun k e=>by cases e;omega)⟩
theorem maker_no {w:World} {a ua:Option Addr} {n cap un ucap:Nat} {mn:Int} {gs:List Grp} {j:Nat} {g:Grp} {cl:List Ch} {fc:Nat→List Ch} (h:UG1 w a ua n cap un ucap mn gs j g cl fc) (hc:cntP gs (cntL g.lv cl) g.pt≤512) {q:Nat} {p:Pnt} (hp:g.pt[q]?=some p) (o:Nat) (ho:p.op≠o) :
  Calls Tryz.prog 50 #[uV a n cap ua un ucap mn,.int .i64 (j:Int),.int .i64 (q:Int),.int .u8 (o:Int)] w fun e w'=>e=.returned (.tuple #[rgV 0 0 0 (.slice none 0 0) (.slice none 0 0),.int .i64 130])∧Below w.heap.size w w':=by
 obtain ⟨ug,uo,qa,qn,qc,pg,po,pv,hPt⟩:=ptOf_ex h hp
 obtain ⟨V,hV⟩:∃ V,V=(w.alloc (uO a n cap ua un ucap mn)).alloc (rgO 0 0 0 (.slice none 0 0) (.slice none 0 0)):=⟨_,rfl⟩
 have hB:Below w.heap.size w V:=by rw [hV];exact belA (belA bR)
 have A2:Hid (At V w.heap.size (uO a n cap ua un ucap mn)):=jH (by rw [hV];exact (At.new _ _).alloc _)
 have A4:Hid (At V (w.heap.size+1) (rgO 0 0 0 (.slice none 0 0) (.slice none 0 0))):=jH (by rw [hV];exact at_snd _ _ _)
 have hz:Hid (V.heap.size=w.heap.size+2):=jH (by rw [hV];simp only [World.size_alloc])
 have CG:=jH (isGraph_yes (h.bel hB))
 have CR:Hid (∀ W,Below V.heap.size V W→Calls Tryz.prog 43 #[uV a n cap ua un ucap mn,.int .i64 (j:Int)] W fun e w'=>(∃ aL cL aA cA,e=.returned (.tuple #[rgV g.lv g.pt.length (cntP gs (cntL g.lv cl) g.pt) (.slice aL cl.length cL) (.slice aA g.pt.length cA),.int .i64 0])∧RgIs W w' gs g cl aL cL aA cA)∧Below W.heap.size W w'):=jH fun W hW=>(regionsOf_any (a:=a) (n:=n) (cap:=cap) ucap mn (h.rg.bel (jB hB hW))).mono fun e w' k=>by
  obtain ⟨aL,cL,aA,cA,fl,lo,hi,h1,h2,h3⟩:=k.1.1 hc
  exact ⟨⟨aL,cL,aA,cA,h1,⟨⟨fl,lo,hi,h2⟩,h3⟩⟩,k.2⟩
 have HPT:Hid (∀ W,Below w.heap.size w W→ug<W.heap.size∧W.cell? ⟨ug,uo+j*7+6,none⟩=some (.slice (some ⟨pg,po,none⟩) qn qc)∧pg<W.heap.size∧W.cell? ⟨pg,po+q*21,none⟩=some (.int .u8 (p.op:Int))):=jH fun W hW=>by
  have k:=hPt.bel hW
  refine ⟨k.ul,by rw [← k.eq];exact k.c6,k.pl,?_⟩
  have:=k.rng 0 _ rfl
  rw [k.pt.op] at this
  exact this
 have eu:=hPt.eu
 subst eu
 have j0:(0:Int)≤(j:Int):=by omega
 have j1:(j:Int)<(un:Int):=by have:=h.rg.jn;omega
 have u32:(un:Int)≤32:=by have:=h.rg.un32;omega
 have q0:(0:Int)≤(q:Int):=by omega
 have q1:(q:Int)<(qn:Int):=by have:=hPt.ql;omega
 have q3:¬ ((qn:Int)≤(q:Int)):=by omega
 have q2:(qn:Int)≤1024:=by have:=hPt.qn5;omega
 have HB:=jH hB
 have HV:=jH hV
 obtain ⟨lv,hlv⟩:∃ lv,lv=g.lv:=⟨_,rfl⟩
 obtain ⟨np,hnp⟩:∃ np,np=g.pt.length:=⟨_,rfl⟩
 obtain ⟨nl,hnl⟩:∃ nl,nl=cl.length:=⟨_,rfl⟩
 obtain ⟨cn,hcn⟩:∃ cn,cn=cntP gs (cntL g.lv cl) g.pt:=⟨_,rfl⟩
 rw [← hcn,← hlv,← hnp,← hnl] at CR
 obtain ⟨op,hop⟩:∃ op,op=p.op:=⟨_,rfl⟩
 rw [← hop] at HPT ho
 have ho1:((op:Int) == (o:Int))=false:=by simp;omega
 have ho2:¬ ((op:Int)=(o:Int)):=by omega
 clear h hc hB hV hlv hnp hnl hcn hPt hp hop
 go_enter Tryz.func50,Tryz.ntmps50
 go_upto_region 1 with fail
 change Code.wp _ _ _ _ ((w.alloc (uO a n cap (some ⟨ug,uo,none⟩) un ucap mn)).alloc (rgO 0 0 0 (.slice none 0 0) (.slice none 0 0)))
 rw [← HV.out]
 clear HV
 obtain ⟨u0,u1,u2⟩:=A2.out.un
 go_upto_region 4 with (first
  | (go_at_call 42;refine CG.out.mono ?_;rintro e w1 ⟨rfl,hb1⟩;have HB1:=jH hb1;clear u0 u1 u2;obtain ⟨u0,u1,u2⟩:=(A2.out.below hb1).un;obtain ⟨x1,x2,x3,x4⟩:=HPT.out _ (jB HB.out hb1);clear hb1)
  | (go_at_call 43;refine (CR.out w1 HB1.out).mono ?_;rintro e w2 ⟨⟨aL,cL,aA,cA,rfl,hR⟩,hb2⟩;have HR:=jH hR;have HB2:=jH (jB HB1.out hb2);have HA4:=jH ((A4.out.below HB1.out).below hb2);have HS2:=jH hb2.size;clear hb2 hR u0 u1 u2 x1 x2 x3 x4))
 have A10:Hid (At (w2.alloc (rgO lv np cn (.slice aL nl cL) (.slice aA np cA))) w2.heap.size (rgO lv np cn (.slice aL nl cL) (.slice aA np cA))):=jH (At.new _ _)
 have A43:=jH (HA4.out.alloc (rgO lv np cn (.slice aL nl cL) (.slice aA np cA)))
 have A23:=jH ((A2.out.below HB2.out).alloc (rgO lv np cn (.slice aL nl cL) (.slice aA np cA)))
 have HB3:=jH (belA (jB HB.out HB2.out) (o:=rgO lv np cn (.slice aL nl cL) (.slice aA np cA)))
 have HR3:=jH (HR.out.bel (belA bR (o:=rgO lv np cn (.slice aL nl cL) (.slice aA np cA))))
 have HS1:=jH HB1.out.size
 obtain ⟨b10,hb10⟩:∃ b10,b10=w2.heap.size:=⟨_,rfl⟩
 rw [← hb10] at A10 HS2 ⊢
 generalize (w2.alloc (rgO lv np cn (.slice aL nl cL) (.slice aA np cA)))=U at A10 A43 A23 HB3 HR3 ⊢
 clear HA4 HR HB2 A2 A4 CG CR hb10
 obtain ⟨u0,u1,u2⟩:=A23.out.un
 obtain ⟨x1,x2,x3,x4⟩:=HPT.out _ HB3.out
 obtain ⟨d0,d1,d2,d3,d4⟩:=A10.out.rg
 have hl10:=A10.out.lt
 have s2:=hz.out
 have s3:=HS1.out
 go_wp2_with ((with_reducible show wpList _ _ _ (Oper.mk none (Op.store 35 _ _) _ _ _ none::_) _ _);refine wpl_storeR (w.heap.size+1) 0 0 0 none 0 0 none 0 0 A43.out rfl rfl ?_;intro w9 h9 hb9;have H9:=jH h9;have HB9:=jH hb9;clear h9 hb9)
 exact bodyPost_ret (results_r2 (v:=.int .i64 130) (lv:=0) (np:=0) (cn:=0) (vL:=.slice none 0 0) (vA:=.slice none 0 0) Tryz.results50 rfl rfl H9.out) rfl ⟨rfl,HB3.out.grown HB9.out HB3.out.size (fun k e=>by cases e;omega)⟩
theorem Tryz.results46:Tryz.f46.results=#[.cell 6 46]:=rfl
theorem typeOf_nil (w:World) (sv:Value) (g off l ln lc:Nat) (pa:Option Addr) (pcap:Nat) (f:Fv) (c:Ch) (hl:l<ln) (hn:ln≤512) (hx:C5 w g (off+l*5) f) (hT:TyAt w f c.ty) (hc:Ok c) :
  Calls Tryz.prog 46 #[sv,.slice (some ⟨g,off,none⟩) ln lc,plV (l:Int) pa 0 pcap] w fun e w'=>∃ f':Fv,e=.returned f'.v∧New w w' f' c:=by
 obtain ⟨k,m,r,s,a,n,cap⟩:=f
 obtain ⟨A5',A6',A7'⟩:=three_new w (plO (l:Int) pa 0 pcap) zT.o (tyO k m r s a n cap)
 have hB':Below w.heap.size w (((w.alloc (plO (l:Int) pa 0 pcap)).alloc zT.o).alloc (tyO k m r s a n cap)):=belA (belA (belA bR))
 obtain ⟨V,hV⟩:∃ V,V=(((w.alloc (plO (l:Int) pa 0 pcap)).alloc zT.o).alloc (tyO k m r s a n cap)):=⟨_,rfl⟩
 have hz:Hid (V.heap.size=w.heap.size+3):=jH (by rw [hV];simp only [World.size_alloc])
 rw [← hV] at A5' A6' A7' hB'
 have HV:=jH hV
 have HB:=jH hB'
 have A5:=jH A5'
 have A6:=jH A6'
 have A7:Hid (At V (w.heap.size+1+1) (Fv.o ⟨k,m,r,s,a,n,cap⟩)):=jH A7'
 have CT:Hid (Calls Tryz.prog 52 #[tyV k m r s a n cap,fnZ 78] V fun e w'=>∃ f':Fv,e=.returned f'.v∧TurnP V (fun _ W=>Below V.heap.size V W) c.regs c f' w'):=jH (by
  have:=rturned_any0 (turnI V) c ⟨k,m,r,s,a,n,cap⟩ [] V hc.ok (okR_true c []) (hT.bel hB') bR
  rw [turn_id] at this
  exact this)
 obtain ⟨hg,p0,p1,p2,p3,p4⟩:=hx.below (belA (belA (Below.refl w.heap.size w)):Below w.heap.size w ((w.alloc (plO (l:Int) pa 0 pcap)).alloc zT.o))
 have l0:(0:Int)≤(l:Int):=by omega
 have l1:(l:Int)<(ln:Int):=by omega
 have l2:(ln:Int)≤512:=by omega
 have A51:Hid (At ((w.alloc (plO (l:Int) pa 0 pcap)).alloc zT.o) w.heap.size (plO (l:Int) pa 0 pcap)):=jH ((At.new _ _).alloc _)
 obtain ⟨W0,hW0⟩:∃ W0,W0=((w.alloc (plO (l:Int) pa 0 pcap)).alloc zT.o):=⟨_,rfl⟩
 have hzW:Hid (W0.heap.size=w.heap.size+1+1):=jH (by rw [hW0];simp only [World.size_alloc])
 rw [← hW0] at hg p0 p1 p2 p3 p4 A51
 have HW0:=jH hW0
 have HVW:Hid (V=W0.alloc (tyO k m r s a n cap)):=jH (by rw [hV,hW0])
 obtain ⟨x0,x1⟩:=A51.out.pl
 clear A5' A6' A7' hB' hV hx hT hc hW0
 go_enter Tryz.func46,Tryz.ntmps46
 go_upto_region 1 with fail
 change Code.wp _ _ _ _ ((w.alloc (plO (l:Int) pa 0 pcap)).alloc zT.o)
 rw [← HW0.out]
 go_upto_region 2 with fail
 change Code.wp _ _ _ _ (W0.alloc (tyO k m r s a n cap))
 rw [← HVW.out]
 simp only [hzW.out]
 clear HVW HW0 hzW p0 p1 p2 p3 p4 hg x0 x1 A51 HV
 obtain ⟨x0,x1⟩:=A5.out.pl
 go_wp2_with fail
 go_loopw [18] (fun v W=>v=.int .i64 0∧W=V) (fun _ _=>1)
 case atStart=>exact ⟨rfl,rfl⟩
 case round =>
  obtain ⟨rfl,hW⟩:=hrel
  cases hW
  obtain ⟨hl7,p0,p1,p2,p3,p4⟩:=A7.out.ty
  go_wp2_with (go_at_call 52;refine CT.out.mono ?_;rintro e w3 ⟨f2,rfl,hP⟩;clear p0 p1 p2 p3 p4;have B4:=hP.keep _ _ A6.out;have g0:=B4.tyF 0;have g1:=B4.tyF 1;have g2:=B4.tyF 2;have g3:=B4.tyF 3;have g4:=B4.tyF 4;obtain ⟨hl4,q0,q1,q2,q3,q4⟩:=B4.ty;simp only [Nat.zero_add] at q0 q1 q2 q3 q4)
  obtain ⟨F1,F2⟩:=new_s5 hP.own (jB HB.out hP.j) (b:=w.heap.size+1) (by omega) (by have:=hz.out;omega) B4
  exact bodyPost_ret (results_c1 (g:=f2) Tryz.results46 rfl F1) rfl ⟨f2,rfl,F2⟩
end Go.Proofs.YtdlggpcakaofoaaGreat
