import Derived.Test.YtmjenlogbkbgnaaGreatDoorC19
import Derived.Laws.EntriesVeiled
namespace Go.Proofs.YtmjenlogbkbgnaaGreatDoor
open Go.RowKit Go.Shelf
set_option linter.unusedVariables false
set_option linter.unusedSimpArgs false
set_option maxRecDepth 100000
set_option maxHeartbeats 16000000
def RgPost (w:World) (gs:List Grp) (g:Grp) (cl:List Ch) (e:Ending) (w':World):Prop :=
 (cntP gs (cntL g.lv cl) g.pt≤512→∃ aL cL aA cA fl lo hi,e=.returned (.tuple #[rgV g.lv g.pt.length (cntP gs (cntL g.lv cl) g.pt) (.slice aL cl.length cL) (.slice aA g.pt.length cA),.int .i64 0])∧FRow w' w.heap.size (.slice aL cl.length cL) (numR g.lv cl) fl lo hi∧w'.ownsRow w.heap.size 3 1 (.slice aA g.pt.length cA) g.pt.length (iCells (atR gs (cntL g.lv cl) g.pt))) ∧
 (512<cntP gs (cntL g.lv cl) g.pt→e=.returned (.tuple #[rgV 0 0 0 (.slice none 0 0) (.slice none 0 0),.int .i64 5]))
theorem Tryz.results85:Tryz.f85.results=#[.cell 4 77,.tmp 5]:=rfl
theorem regionsOf_any {w:World} {a ua:Option Addr} {n cap un:Nat} (ucap:Nat) (mn:Int) {gs:List Grp} {j:Nat} {g:Grp} {cl:List Ch} (hI:RgIn w ua un gs j g cl) :
  Calls Tryz.prog 85 #[uV a n cap ua un ucap mn,.int .i64 (j:Int)] w fun e w'=>RgPost w gs g cl e w'∧Below w.heap.size w w':=by
 obtain ⟨ug,uo,nm,oa,on,oc,pa,la,ln,lc,na,nn,nc,qa,qn,qc,ea,hC7,hLc,hPs⟩:=hI.ex
 have HI:=jH hI
 obtain ⟨lv,hlv⟩:∃ lv,lv=g.lv:=⟨_,rfl⟩
 rw [← hlv] at hC7
 have HLV:=jH hlv
 have HC7:=jH hC7
 have HLC:=jH hLc
 have HPS:=jH hPs
 have hll:ln=cl.length:=by have:=hLc.len;rw [List.length_map] at this;exact this
 have HLL:=jH hll
 have hqq:qn=g.pt.length:=hPs.len
 have HQQ:=jH hqq
 have ln5:ln≤512:=by have:=hI.cln;omega
 have qn5:qn≤1024:=by have:=hI.ptn;omega
 have lv0:0≤lv:=by rw [hlv];exact hI.lv0
 have lv8:lv≤8:=by rw [hlv];exact hI.lv8
 have u32:(un:Int)≤32:=by have:=hI.un32;omega
 have j0:(0:Int)≤(j:Int):=by omega
 have j1:(j:Int)<(un:Int):=by have:=hI.jn;omega
 have l5i:(ln:Int)≤512:=by omega
 have q5i:(qn:Int)≤1024:=by omega
 subst ea
 have A1:Hid (At ((w.alloc (uO a n cap (some ⟨ug,uo,none⟩) un ucap mn)).alloc (rgO 0 0 0 (.slice none 0 0) (.slice none 0 0))) w.heap.size (uO a n cap (some ⟨ug,uo,none⟩) un ucap mn)):=jH ((At.new _ _).alloc _)
 have A4:Hid (At ((w.alloc (uO a n cap (some ⟨ug,uo,none⟩) un ucap mn)).alloc (rgO 0 0 0 (.slice none 0 0) (.slice none 0 0))) (w.heap.size+1) (rgO 0 0 0 (.slice none 0 0) (.slice none 0 0))):=jH (at_snd _ _ _)
 have HB1:Hid (Below w.heap.size w ((w.alloc (uO a n cap (some ⟨ug,uo,none⟩) un ucap mn)).alloc (rgO 0 0 0 (.slice none 0 0) (.slice none 0 0)))):=jH (belA (belA bR))
 have HZ1:Hid (((w.alloc (uO a n cap (some ⟨ug,uo,none⟩) un ucap mn)).alloc (rgO 0 0 0 (.slice none 0 0) (.slice none 0 0))).heap.size=w.heap.size+2):=jH (by simp only [World.size_alloc])
 clear hI hC7 hLc hPs hlv hll hqq
 go_enter Tryz.func85,Tryz.ntmps85
 go_upto_region 1 with fail
 change Code.wp _ _ _ _ ((w.alloc (uO a n cap (some ⟨ug,uo,none⟩) un ucap mn)).alloc (rgO 0 0 0 (.slice none 0 0) (.slice none 0 0)))
 generalize ((w.alloc (uO a n cap (some ⟨ug,uo,none⟩) un ucap mn)).alloc (rgO 0 0 0 (.slice none 0 0) (.slice none 0 0)))=V1 at A1 A4 HB1 HZ1 ⊢
 obtain ⟨u0,u1,u2⟩:=A1.out.un
 have hugl:ug<V1.heap.size:=Nat.lt_of_lt_of_le HC7.out.1 HB1.out.size
 obtain ⟨b6,hb6⟩:∃ b6,b6=V1.heap.size:=⟨_,rfl⟩
 have Hb6:=jH hb6
 go_upto_region 2 with (first
  | ((with_reducible show wpList _ _ _ (Oper.mk (some _) (Op.load 73 _) _ _ _ none::_) _ _);refine wpl_load70 ug (uo+j*7) nm lv oa on oc pa la ln lc na nn nc qa qn qc rfl (HC7.out.bel HB1.out) ?_)
  | ((with_reducible show wpList _ _ _ (Oper.mk none (Op.store 73 _ _) _ _ _ none::_) _ _);refine wpl_store70 V1.heap.size nm lv oa on oc pa la ln lc na nn nc qa qn qc (there_new V1 _ _ 7 rfl) (by simp) rfl rfl ?_;intro V2 hc2 hb2;have C6:=jH hc2;have HBB:=jH hb2;clear hc2 hb2))
 have n12:w.heap.size≠V1.heap.size:=by have:=HZ1.out;omega
 have n42:w.heap.size+1≠V1.heap.size:=by have:=HZ1.out;omega
 have A12:=jH ((A1.out.alloc _).but HBB.out n12)
 have A42:=jH ((A4.out.alloc _).but HBB.out n42)
 have HB2:=jH ((belA HB1.out).grown HBB.out (by have:=HZ1.out;simp only [World.size_alloc];omega) (fun k e=>by cases e;have:=HZ1.out;omega))
 have hz2:=HBB.out.size
 simp only [World.size_alloc] at hz2
 have s2:b6+1≤V2.heap.size:=by omega
 have s6:w.heap.size+2≤b6:=by have:=HZ1.out;omega
 rw [← hb6] at C6 ⊢
 clear HBB A1 A4 HB1 HZ1 u0 u1 u2 hugl hb6 Hb6 n12 n42 hz2
 obtain ⟨g0,g1,g2,g3,g4,g5,g6⟩:=C6.out.cells
 simp only [Nat.zero_add] at g0 g1 g2 g3 g4 g5 g6
 have hl6:=C6.out.1
 go_upto_region 3 with fail
 have A7':Hid (At (V2.alloc (rgO lv qn lv (.slice none 0 0) (.slice none 0 0))) V2.heap.size (rgO lv qn lv (.slice none 0 0) (.slice none 0 0))):=jH (At.new _ _)
 have A13:=jH (A12.out.alloc (rgO lv qn lv (.slice none 0 0) (.slice none 0 0)))
 have A43:=jH (A42.out.alloc (rgO lv qn lv (.slice none 0 0) (.slice none 0 0)))
 have HB3:=jH (belA HB2.out (o:=rgO lv qn lv (.slice none 0 0) (.slice none 0 0)))
 have C63:=jH (C6.out.bel (belA bR (o:=rgO lv qn lv (.slice none 0 0) (.slice none 0 0))))
 have s3:V2.heap.size<(V2.alloc (rgO lv qn lv (.slice none 0 0) (.slice none 0 0))).heap.size:=by simp
 obtain ⟨b7,hb7⟩:∃ b7,b7=V2.heap.size:=⟨_,rfl⟩
 rw [← hb7] at A7' s2 s3 ⊢
 generalize (V2.alloc (rgO lv qn lv (.slice none 0 0) (.slice none 0 0)))=V3 at A7' A13 A43 HB3 C63 s3 ⊢
 clear A12 A42 HB2 C6 g0 g1 g2 g3 g4 g5 g6 hl6 hb7
 go_upto_region 4 with fail
 have A8:Hid (At (V3.alloc (One (fnB 104 b7) 177)) V3.heap.size (One (fnB 104 b7) 177)):=jH (At.new _ _)
 have A14:=jH (A13.out.alloc (One (fnB 104 b7) 177))
 have A44:=jH (A43.out.alloc (One (fnB 104 b7) 177))
 have A74:=jH (A7'.out.alloc (One (fnB 104 b7) 177))
 have HB4:=jH (belA HB3.out (o:=One (fnB 104 b7) 177))
 have C64:=jH (C63.out.bel (belA bR (o:=One (fnB 104 b7) 177)))
 have s4:V3.heap.size<(V3.alloc (One (fnB 104 b7) 177)).heap.size:=by simp
 obtain ⟨b8,hb8⟩:∃ b8,b8=V3.heap.size:=⟨_,rfl⟩
 rw [← hb8] at A8 s3 s4 ⊢
 generalize (V3.alloc (One (fnB 104 b7) 177))=V4 at A8 A14 A44 A74 HB4 C64 s4 ⊢
 clear A13 A43 A7' HB3 C63 hb8
 obtain ⟨B,hB⟩:∃ B,B=V4.heap.size:=⟨_,rfl⟩
 have HBS:Hid (Bs w b6 b7 b8 B):=jH ⟨s6,by omega,s3,by omega⟩
 have HB4':Hid (B=V4.heap.size):=jH hB
 obtain ⟨g0,g1,g2,g3,g4,g5,g6⟩:=C64.out.cells
 simp only [Nat.zero_add] at g0 g1 g2 g3 g4 g5 g6
 have hl6:=C64.out.1
 go_wp2_with fail
 clear g0 g1 g2 g3 g4 g5 g6 hl6
 have HST:Hid (L1 w V4 b6 b7 b8 B (uO a n cap (some ⟨ug,uo,none⟩) un ucap mn) nm lv oa on oc pa la ln lc na nn nc qa qn qc 0 cl none 0 [] (fun _=>0) (fun _=>0)):=jH ⟨A14.out,A44.out,C64.out,A74.out,A8.out,FRow.nil _ _ _ _,HB4.out,by rw [hB];exact Nat.le_refl _⟩
 clear A14 A44 C64 A74 A8 HB4 hB HB4' s2 s3 s4 s6
 go_loopw [32] (fun v V=>∃ i:Nat,i≤ln∧∃ aL cL fl lo hi,v=.int .i64 (i:Int)∧L1 w V b6 b7 b8 B (uO a n cap (some ⟨ug,uo,none⟩) un ucap mn) nm lv oa on oc pa la ln lc na nn nc qa qn qc i cl aL cL fl lo hi) (fun v _=>ln - (intOf v).toNat)
 case atStart=>exact ⟨0,Nat.zero_le _,_,_,_,_,_,rfl,HST.out⟩
 case round =>
  clear HST
  obtain ⟨i,hi,aL,cL,fl,lo,hi2,rfl,hL1⟩:=hrel
  have HL1:=jH hL1
  clear hL1
  by_cases hlt:i<ln
  ·obtain ⟨c,hc⟩:∃ c,cl[i]?=some c:=⟨_,List.getElem?_eq_getElem (by rw [← HLL.out];exact hlt)⟩
   have HC:=jH hc
   obtain ⟨lg,lo1,f,el,hC5,hTy⟩:=HLC.out.one (i:=i) (t:=c.ty) (by rw [List.getElem?_map,hc];rfl)
   have hOk:=HI.out.ok c (List.mem_of_getElem? hc)
   have hreg:c.regs.length≤60:=by have:=hOk.deep;have:=regs_le c;omega
   have el2:la=some ⟨lg,lo1,none⟩:=el
   subst el2
   have hCt:=cntL_le (cl.take i) lv (fun d hd=>by have:=(HI.out.ok d (List.mem_of_mem_take hd)).deep;have:=regs_le d;omega)
   have hlen:(cl.take i).length=i:=by rw [List.length_take,← HLL.out];omega
   rw [hlen] at hCt
   obtain ⟨cnt,hcnt⟩:∃ cnt,cnt=cntL lv (cl.take i):=⟨_,rfl⟩
   rw [← hcnt] at hCt
   have hc0:0≤cnt:=by omega
   have hc1:cnt≤100000:=by omega
   have hnl:(numR lv (cl.take i)).length=i:=by rw [numR_len];exact hlen
   have HTY:=jH hTy
   have HOK:=jH hOk
   have HREG:=jH hreg
   have HCNT:=jH hcnt
   have HFL:Hid (fl.length=i):=jH (by rw [HL1.out.row.len,hnl])
   have HXL:Hid (∀ z:Fv,(tCells fl++t5 z).length=(i+1)*5):=jH fun z=>by rw [List.length_append,tCells_len,HFL.out];simp [t5];omega
   have HMS:Hid (ln - ((i:Int)+1).toNat<ln - (i:Int).toNat):=jH (by omega)
   have hi5:i≤512:=by omega
   have h7B:b7<B:=by have:=HBS.out.h8;have:=HBS.out.hB;omega
   obtain ⟨k,m,r,s,fa,fn,fc⟩:=f
   obtain ⟨hlg,p0,p1,p2,p3,p4⟩:=hC5.below HL1.out.bel
   have k0:(0:Int)≤(i:Int):=by omega
   have k1:(i:Int)<(ln:Int):=by omega
   have k2:(i:Int)<(i:Int)+1:=by omega
   clear hc hC5 hTy hOk hreg el hlen hcnt hCt
   go_upto_region 7 with fail
   obtain ⟨b10,hb10⟩:∃ b10,b10=wr.heap.size:=⟨_,rfl⟩
   have HA10:Hid (At (wr.alloc (tyO k m r s fa fn fc)) b10 (Fv.o ⟨k,m,r,s,fa,fn,fc⟩)):=jH (by rw [hb10];exact At.new _ _)
   have HUB:Hid (Below wr.heap.size wr (wr.alloc (tyO k m r s fa fn fc))):=jH (belA bR)
   have HUS:Hid ((wr.alloc (tyO k m r s fa fn fc)).heap.size=b10+1):=jH (by rw [hb10];simp)
   have HB10:Hid (B≤b10):=jH (by rw [hb10];exact HL1.out.B0)
   have HLO:Hid (∀ b,(Value.slice aL i cL).ownBlock=some b→B≤b∧b<b10):=jH fun b e=>by rw [hb10];exact ⟨own_lo HL1.out.row.row b e,(HL1.out.row.row.lt b e).2⟩
   rw [← hb10]
   clear p0 p1 p2 p3 p4 hlg hb10
   generalize (wr.alloc (tyO k m r s fa fn fc))=U at HA10 HUB HUS ⊢
   have HBU:Hid (B≤b10∧b10<U.heap.size):=jH ⟨HB10.out,by have:=HUS.out;omega⟩
   have h107:b10≠b7:=by have:=HBU.out;omega
   have HROW:=jH (HL1.out.row.bel HUB.out)
   obtain ⟨SS,hSS⟩:∃ SS:World→Prop,SS=fun W=>At W b10 (Fv.o ⟨k,m,r,s,fa,fn,fc⟩):=⟨_,rfl⟩
   have HSS:Hid (∀ W,But b7 U W→At W b10 (Fv.o ⟨k,m,r,s,fa,fn,fc⟩)):=jH fun W hW=>HA10.out.but hW h107
   clear hSS SS
   have J0:Hid (JG b7 b8 lv qn cnt (.slice aL i cL) (.slice none 0 0) U [] U.drew):=jH ⟨HL1.out.a8.below (HUB.out.trans bR.drew),by rw [show cnt+((negs []:Nat):Int)=cnt by simp [negs]];have:=HL1.out.a7;rw [← HCNT.out] at this;exact this.below (HUB.out.trans bR.drew),But.below bR.drew⟩
   have CT:Hid (∀ V,JG b7 b8 lv qn cnt (.slice aL i cL) (.slice none 0 0) U [] V→Calls Tryz.prog 105 #[tyV k m r s fa fn fc,fnB 106 b8] V fun e w'=>∃ f':Fv,e=.returned f'.v∧TurnP V (JG b7 b8 lv qn cnt (.slice aL i cL) (.slice none 0 0) U) c.regs (numC (cntL lv (cl.take i)) c) f' w'):=jH fun V hV=>by
    rw [← HCNT.out]
    have hbs:=HBS.out
    have q6:=hbs.h6
    have q7:=hbs.h7
    have q8:=hbs.h8
    have qB:=hbs.hB
    have hb:=HBU.out
    exact rturned_any1 (turnG w U b7 b8 lv qn cnt _ _ (jB HL1.out.bel HUB.out) (by omega) (by omega) (by omega) (by omega) hc0 hc1) c ⟨k,m,r,s,fa,fn,fc⟩ [] V HOK.out.ok (okR_len c [] (by have:=HREG.out;simp;omega)) HTY.out hV
   have HJ8:Hid (∀ W,At W b10 (Fv.o ⟨k,m,r,s,fa,fn,fc⟩)→W.cell? ⟨b10,0,none⟩=W.cell? ⟨b10,0,none⟩):=jH fun W h=>rfl
   refine beginH (S:=fun W=>At W b10 (Fv.o ⟨k,m,r,s,fa,fn,fc⟩)) (fun _ _ _ _ _ h=>h) (by kernel_rfl) (HSS.out _ (But.below bR.drew)) (fun hq hH=>?_)
   rw [HCNT.out] at J0 CT
   generalize U.drew=V0 at J0 hH ⊢
   refine tz 0 36 (.pointer (some ⟨b7,3,none⟩)) hq rfl rfl hH ?_
   simp only [pb,pc]
   refine tq 2 38 (tyV k m r s fa fn fc) hq rfl rfl (fun W hSw=>by (obtain ⟨-,p0,p1,p2,p3,p4⟩:=(show At W b10 (Fv.o ⟨k,m,r,s,fa,fn,fc⟩) from hSw).ty;go_simp;try rfl)) hH ?_
   simp only [pb,pc]
   refine tz 3 39 (fnB 106 b8) hq rfl rfl hH ?_
   simp only [pb,pc]
   refine aRd [1,4,6] ?_
   refine AllReadyH.cons rfl (fun K hK=>?_) (AllReadyH.cons rfl (fun K hK=>?_) (AllReadyH.cons rfl (fun K hK=>?_) (AllReadyH.nil)))
   ·obtain ⟨_,_,_,c3,_⟩:=J0.out.a7.rg
    go_simp
    go_wp2_with fail
    refine hK.out _ _ hH (fun hH=>?_)
    clear hK K c3
    try simp only [Act.put,List.setIfInBounds_toArray,pb,pc]
    refine tz 5 41 (.int .i64 (i:Int)) hq rfl rfl hH ?_
    simp only [pb,pc]
    refine aRd [4,6] ?_
    refine AllReadyH.cons rfl (fun K hK=>?_) (AllReadyH.cons rfl (fun K hK=>?_) (AllReadyH.nil))
    ·go_simp
     refine (CT.out V0 J0.out).mono ?_
     rintro e V1 ⟨⟨fk,fm0,fr0,fs,fa0,fn0,fcap⟩,rfl,hP⟩
     have J1:=jH hP.j
     have HO:=jH hP.own.toL
     have hls:V0.heap.size≤V1.heap.size:=hP.size
     have hus:U.heap.size≤V0.heap.size:=J0.out.but.size
     have HR:Hid (U.heap.size≤V0.heap.size∧V0.heap.size≤V1.heap.size∧V1.heap.size≤V1.heap.size):=jH ⟨hus,hls,Nat.le_refl _⟩
     clear hP hls hus
     go_wp2_with fail
     refine hK.out _ _ (show (fun W=>At W b10 (Fv.o ⟨k,m,r,s,fa,fn,fc⟩)) V1 from HSS.out _ J1.out.but) (fun hH=>?_)
     clear hK K
     try simp only [Act.put,List.setIfInBounds_toArray,pb,pc]
     obtain ⟨l1,h1,HO2,HR2⟩:∃ l1 h1,Hid (OwnL V1 l1 h1 ⟨fk,fm0,fr0,fs,fa0,fn0,fcap⟩ (numC (cntL lv (cl.take i)) c))∧Hid (U.heap.size≤l1∧l1≤h1∧h1≤V1.heap.size):=⟨_,_,HO,HR⟩
     clear HO HR
     have HO:=HO2
     have HR:=HR2
     clear HO2 HR2 J0
     refine aRd [6] ?_
     refine AllReadyH.cons rfl (fun K hK=>?_) (AllReadyH.nil)
     ·go_simp
      go_wp2_with fail
      have J2:=jH (J1.out.keep (belA bR (o:=zT.o)))
      have HZ:Hid (At (V1.alloc zT.o) V1.heap.size zT.o):=jH (At.new _ _)
      have hz1:U.heap.size≤V1.heap.size:=J1.out.but.size
      have HO2:=jH (HO.out.bel (belA bR (o:=zT.o)))
      have HR2:Hid (U.heap.size≤l1∧l1≤h1∧h1≤(V1.alloc zT.o).heap.size∧(V1.heap.size<l1∨h1≤V1.heap.size)):=jH ⟨HR.out.1,HR.out.2.1,Nat.le_trans HR.out.2.2 (belA bR (o:=zT.o)).size,.inr HR.out.2.2⟩
      refine hK.out _ _ (show (fun W=>At W b10 (Fv.o ⟨k,m,r,s,fa,fn,fc⟩)) (V1.alloc zT.o) from HSS.out _ J2.out.but) (fun hH=>?_)
      clear hK K
      try simp only [Act.put,List.setIfInBounds_toArray,pb,pc]
      clear HO HR
      have HO:=HO2
      have HR:=HR2
      clear HO2 HR2
      obtain ⟨bz,hbz⟩:∃ bz,bz=V1.heap.size:=⟨_,rfl⟩
      rw [← hbz] at HZ hz1 HR ⊢
      generalize (V1.alloc zT.o)=V2 at J2 HZ HO HR hH ⊢
      clear J1 hbz
      refine aRd [7] ?_
      refine AllReadyH.cons (o:={ dst:=some 43,op:=.call { callee:=.builtin .append,args:=#[.tmp 37,.tmp 42],argTypes:=#[41,41] },type:=41,pos := "number.go:37",after:=_,guard:=none }) rfl (fun K hK=>?_) AllReadyH.nil
      rw [if_pos (by rfl)]
      have HF:=jH (HROW.out.grow J2.out.but (fun b hb=>by cases hb;exact h7B))
      obtain ⟨g2,c2,W2,hrun,hrow2,hg2,hw2⟩:=app1 HF.out HZ.out hnl hi5 (Nat.le_trans HBU.out.1 (Nat.le_of_lt (Nat.lt_of_lt_of_le HBU.out.2 J2.out.but.size)))
      have hlo2:∀ b,(Value.slice aL i cL).ownBlock=some b→B≤b∧b<b10:=fun b e=>HLO.out b e
      have hzz:b10<V2.heap.size:=Nat.lt_of_lt_of_le HBU.out.2 J2.out.but.size
      have HS2:At W2 b10 (Fv.o ⟨k,m,r,s,fa,fn,fc⟩):=hH.grown hg2 (fun e=>Nat.lt_irrefl _ (hlo2 _ e.symm).2)
      obtain ⟨hB2,hne2⟩:=g2_of hlo2 hw2 HBU.out.1 hzz
      have hne7:b7≠g2:=Nat.ne_of_lt (Nat.lt_of_lt_of_le h7B hB2)
      have A72:=jH (J2.out.a7.grown hg2 (fun e=>absurd (hlo2 b7 e.symm).1 (Nat.not_le.2 h7B)))
      have HW2:=jH hw2
      have HG2:=jH hg2
      have HRW:=jH hrow2
      refine wp_append1 rfl rfl rfl hrun ?_
      refine hK.out _ _ HS2 (fun hH=>?_)
      clear hK K hrun hrow2 hg2 hw2 hlo2 hzz HS2
      try simp only [Act.put,List.setIfInBounds_toArray,pb,pc]
      refine tz 8 44 (.pointer (some ⟨g2,i*5,none⟩)) hq rfl rfl hH ?_
      simp only [pb,pc]
      refine tz 10 45 (.pointer (some ⟨b7,3,none⟩)) hq rfl rfl hH ?_
      simp only [pb,pc]
      refine aRd [9,11] ?_
      refine AllReadyH.cons (o:={ dst:=none,op:=.store 43 (.tmp 44) (.tmp 40),type:=0,pos := "number.go:37",after:=_,guard:=none }) rfl (fun K hK=>?_) (AllReadyH.cons rfl (fun K hK=>?_) AllReadyH.nil)
      ·rw [if_pos (by rfl)]
       refine wp_store_mid 43 (.tmp 44) (.tmp 40) rfl g2 (i*5) (t5 ⟨fk,fm0,fr0,fs,fa0,fn0,fcap⟩).toArray rfl rfl (there_row HRW.out (HXL.out _)) size46 (all_oneCell_toArray (t5_ones _)) ?_
       refine hK.out _ _ (show (fun W=>At W b10 (Fv.o ⟨k,m,r,s,fa,fn,fc⟩)) (W2.setCells g2 (i*5) (t5 ⟨fk,fm0,fr0,fs,fa0,fn0,fcap⟩)) from hH.but (but_setCells g2 _ (i*5) W2) hne2) (fun hH=>?_)
       clear hK K
       try simp only [Act.put,List.setIfInBounds_toArray,pb,pc]
       have A73:=A72.out.but (but_setCells g2 (t5 ⟨fk,fm0,fr0,fs,fa0,fn0,fcap⟩) (i*5) W2) hne7
       refine aR1 11 rfl (fun K hK=>?_)
       have HEQ:Hid ((W2.setCells g2 (i*5) (t5 ⟨fk,fm0,fr0,fs,fa0,fn0,fcap⟩))=(W2.setCells g2 (i*5) (t5 ⟨fk,fm0,fr0,fs,fa0,fn0,fcap⟩))):=jH rfl
       obtain ⟨W3,hW3⟩:∃ W3,W3=W2.setCells g2 (i*5) (t5 ⟨fk,fm0,fr0,fs,fa0,fn0,fcap⟩):=⟨_,rfl⟩
       have HW3:=jH hW3
       rw [← hW3] at A73 hH ⊢
       clear hW3 HEQ
       obtain ⟨_,_,_,c3,_⟩:=A73.rg
       have f3:=A73.rgF 3
       have hl7:=A73.lt
       go_simp
       go_wp2_with fail
       refine hK.out _ _ (show (fun W=>At W b10 (Fv.o ⟨k,m,r,s,fa,fn,fc⟩)) (W3.setCell ⟨b7,3,none⟩ (.slice (some ⟨g2,0,none⟩) (i+1) c2)) from hH.set (by simpa using h107) _) (fun hH=>?_)
       clear hK K c3 f3 hl7
       try simp only [Act.put,List.setIfInBounds_toArray,pb,pc]
       refine wpAnyH_done (by kernel_rfl) ?_ _
       have HN:=jH (HL1.out.next HBS.out HC.out HUB.out J2.out HO.out ⟨HR.out.1,HR.out.2.1,HR.out.2.2.1⟩ HRW.out HG2.out HW2.out)
       rw [← HW3.out] at HN
       generalize (W3.setCell ⟨b7,3,none⟩ (.slice (some ⟨g2,0,none⟩) (i+1) c2))=W4 at HN ⊢
       clear HRW HG2 HW2 A72 HF HO HR J2 HZ hH hq
       go_wp2_with fail
       exact ⟨⟨i+1,hlt,_,_,_,_,_,rfl,HN.out⟩,HMS.out⟩
      ·obtain ⟨_,_,_,c3,_⟩:=A72.out.rg
       have f3:=A72.out.rgF 3
       have hl7:=A72.out.lt
       go_simp
       go_wp2_with fail
       refine hK.out _ _ (show (fun W=>At W b10 (Fv.o ⟨k,m,r,s,fa,fn,fc⟩)) (W2.setCell ⟨b7,3,none⟩ (.slice (some ⟨g2,0,none⟩) (i+1) c2)) from hH.set (by simpa using h107) _) (fun hH=>?_)
       clear hK K c3 f3 hl7
       try simp only [Act.put,List.setIfInBounds_toArray,pb,pc]
       have HRX:=own_grow HRW.out ((But.refl b7 W2).set 3 (.slice (some ⟨g2,0,none⟩) (i+1) c2)) (fun g e=>by simp only [Value.ownBlock,Option.some.injEq] at e;intro e2;cases e2;exact hne7 e.symm)
       refine aRd [9] ?_
       refine AllReadyH.cons (o:={ dst:=none,op:=.store 43 (.tmp 44) (.tmp 40),type:=0,pos := "number.go:37",after:=_,guard:=none }) rfl (fun K hK=>?_) AllReadyH.nil
       rw [if_pos (by rfl)]
       refine wp_store_mid 43 (.tmp 44) (.tmp 40) rfl g2 (i*5) (t5 ⟨fk,fm0,fr0,fs,fa0,fn0,fcap⟩).toArray rfl rfl (there_row HRX (HXL.out _)) size46 (all_oneCell_toArray (t5_ones _)) ?_
       refine hK.out _ _ (show (fun W=>At W b10 (Fv.o ⟨k,m,r,s,fa,fn,fc⟩)) ((W2.setCell ⟨b7,3,none⟩ (.slice (some ⟨g2,0,none⟩) (i+1) c2)).setCells g2 (i*5) (t5 ⟨fk,fm0,fr0,fs,fa0,fn0,fcap⟩)) from hH.but (but_setCells g2 _ (i*5) _) hne2) (fun hH=>?_)
       clear hK K
       try simp only [Act.put,List.setIfInBounds_toArray,pb,pc]
       refine wpAnyH_done (by kernel_rfl) ?_ _
       have HN:=jH (HL1.out.next HBS.out HC.out HUB.out J2.out HO.out ⟨HR.out.1,HR.out.2.1,HR.out.2.2.1⟩ HRW.out HG2.out HW2.out)
       rw [← setCells_comm ⟨b7,3,none⟩ _ g2 (by simpa using hne7)] at HN
       generalize ((W2.setCell ⟨b7,3,none⟩ (.slice (some ⟨g2,0,none⟩) (i+1) c2)).setCells g2 (i*5) (t5 ⟨fk,fm0,fr0,fs,fa0,fn0,fcap⟩))=W4 at HN ⊢
       clear HRW HG2 HW2 A72 HF HO HR J2 HZ hH hq
       go_wp2_with fail
       exact ⟨⟨i+1,hlt,_,_,_,_,_,rfl,HN.out⟩,HMS.out⟩
    ·go_simp
     go_wp2_with fail
     have J1:=jH (J0.out.keep (belA bR (o:=zT.o)))
     have HZ:Hid (At (V0.alloc zT.o) V0.heap.size zT.o):=jH (At.new _ _)
     have hz1:U.heap.size≤V0.heap.size:=J0.out.but.size
     have HZS:Hid (V0.heap.size<(V0.alloc zT.o).heap.size):=jH (by simp)
     refine hK.out _ _ (show (fun W=>At W b10 (Fv.o ⟨k,m,r,s,fa,fn,fc⟩)) (V0.alloc zT.o) from HSS.out _ J1.out.but) (fun hH=>?_)
     clear hK K
     try simp only [Act.put,List.setIfInBounds_toArray,pb,pc]
     obtain ⟨bz,hbz⟩:∃ bz,bz=V0.heap.size:=⟨_,rfl⟩
     rw [← hbz] at HZ hz1 HZS ⊢
     generalize (V0.alloc zT.o)=V1 at J1 HZ HZS hH ⊢
     clear J0 hbz
     refine aRd [4] ?_
     refine AllReadyH.cons rfl (fun K hK=>?_) (AllReadyH.nil)
     ·go_simp
      refine (CT.out V1 J1.out).mono ?_
      rintro e V2 ⟨⟨fk,fm0,fr0,fs,fa0,fn0,fcap⟩,rfl,hP⟩
      have J2:=jH hP.j
      have HO:=jH hP.own.toL
      have hls:V1.heap.size≤V2.heap.size:=hP.size
      have hus:U.heap.size≤V1.heap.size:=J1.out.but.size
      have HZ2:=jH (hP.keep bz zT HZ.out)
      have HR:Hid (U.heap.size≤V1.heap.size∧V1.heap.size≤V2.heap.size∧V2.heap.size≤V2.heap.size∧(bz<V1.heap.size∨V2.heap.size≤bz)):=jH ⟨hus,hls,Nat.le_refl _,.inl HZS.out⟩
      clear hP hls hus
      go_wp2_with fail
      refine hK.out _ _ (show (fun W=>At W b10 (Fv.o ⟨k,m,r,s,fa,fn,fc⟩)) V2 from HSS.out _ J2.out.but) (fun hH=>?_)
      clear hK K
      try simp only [Act.put,List.setIfInBounds_toArray,pb,pc]
      clear HZ HZS
      have HZ:=HZ2
      clear HZ2
      obtain ⟨l1,h1,HO2,HR2⟩:∃ l1 h1,Hid (OwnL V2 l1 h1 ⟨fk,fm0,fr0,fs,fa0,fn0,fcap⟩ (numC (cntL lv (cl.take i)) c))∧Hid (U.heap.size≤l1∧l1≤h1∧h1≤V2.heap.size∧(bz<l1∨h1≤bz)):=⟨_,_,HO,HR⟩
      clear HO HR
      have HO:=HO2
      have HR:=HR2
      clear HO2 HR2 J1
      refine aRd [7] ?_
      refine AllReadyH.cons (o:={ dst:=some 43,op:=.call { callee:=.builtin .append,args:=#[.tmp 37,.tmp 42],argTypes:=#[41,41] },type:=41,pos := "number.go:37",after:=_,guard:=none }) rfl (fun K hK=>?_) AllReadyH.nil
      rw [if_pos (by rfl)]
      have HF:=jH (HROW.out.grow J2.out.but (fun b hb=>by cases hb;exact h7B))
      obtain ⟨g2,c2,W2,hrun,hrow2,hg2,hw2⟩:=app1 HF.out HZ.out hnl hi5 (Nat.le_trans HBU.out.1 (Nat.le_of_lt (Nat.lt_of_lt_of_le HBU.out.2 J2.out.but.size)))
      have hlo2:∀ b,(Value.slice aL i cL).ownBlock=some b→B≤b∧b<b10:=fun b e=>HLO.out b e
      have hzz:b10<V2.heap.size:=Nat.lt_of_lt_of_le HBU.out.2 J2.out.but.size
      have HS2:At W2 b10 (Fv.o ⟨k,m,r,s,fa,fn,fc⟩):=hH.grown hg2 (fun e=>Nat.lt_irrefl _ (hlo2 _ e.symm).2)
      obtain ⟨hB2,hne2⟩:=g2_of hlo2 hw2 HBU.out.1 hzz
      have hne7:b7≠g2:=Nat.ne_of_lt (Nat.lt_of_lt_of_le h7B hB2)
      have A72:=jH (J2.out.a7.grown hg2 (fun e=>absurd (hlo2 b7 e.symm).1 (Nat.not_le.2 h7B)))
      have HW2:=jH hw2
      have HG2:=jH hg2
      have HRW:=jH hrow2
      refine wp_append1 rfl rfl rfl hrun ?_
      refine hK.out _ _ HS2 (fun hH=>?_)
      clear hK K hrun hrow2 hg2 hw2 hlo2 hzz HS2
      try simp only [Act.put,List.setIfInBounds_toArray,pb,pc]
      refine tz 8 44 (.pointer (some ⟨g2,i*5,none⟩)) hq rfl rfl hH ?_
      simp only [pb,pc]
      refine tz 10 45 (.pointer (some ⟨b7,3,none⟩)) hq rfl rfl hH ?_
      simp only [pb,pc]
      refine aRd [9,11] ?_
      refine AllReadyH.cons (o:={ dst:=none,op:=.store 43 (.tmp 44) (.tmp 40),type:=0,pos := "number.go:37",after:=_,guard:=none }) rfl (fun K hK=>?_) (AllReadyH.cons rfl (fun K hK=>?_) AllReadyH.nil)
      ·rw [if_pos (by rfl)]
       refine wp_store_mid 43 (.tmp 44) (.tmp 40) rfl g2 (i*5) (t5 ⟨fk,fm0,fr0,fs,fa0,fn0,fcap⟩).toArray rfl rfl (there_row HRW.out (HXL.out _)) size46 (all_oneCell_toArray (t5_ones _)) ?_
       refine hK.out _ _ (show (fun W=>At W b10 (Fv.o ⟨k,m,r,s,fa,fn,fc⟩)) (W2.setCells g2 (i*5) (t5 ⟨fk,fm0,fr0,fs,fa0,fn0,fcap⟩)) from hH.but (but_setCells g2 _ (i*5) W2) hne2) (fun hH=>?_)
       clear hK K
       try simp only [Act.put,List.setIfInBounds_toArray,pb,pc]
       have A73:=A72.out.but (but_setCells g2 (t5 ⟨fk,fm0,fr0,fs,fa0,fn0,fcap⟩) (i*5) W2) hne7
       refine aR1 11 rfl (fun K hK=>?_)
       have HEQ:Hid ((W2.setCells g2 (i*5) (t5 ⟨fk,fm0,fr0,fs,fa0,fn0,fcap⟩))=(W2.setCells g2 (i*5) (t5 ⟨fk,fm0,fr0,fs,fa0,fn0,fcap⟩))):=jH rfl
       obtain ⟨W3,hW3⟩:∃ W3,W3=W2.setCells g2 (i*5) (t5 ⟨fk,fm0,fr0,fs,fa0,fn0,fcap⟩):=⟨_,rfl⟩
       have HW3:=jH hW3
       rw [← hW3] at A73 hH ⊢
       clear hW3 HEQ
       obtain ⟨_,_,_,c3,_⟩:=A73.rg
       have f3:=A73.rgF 3
       have hl7:=A73.lt
       go_simp
       go_wp2_with fail
       refine hK.out _ _ (show (fun W=>At W b10 (Fv.o ⟨k,m,r,s,fa,fn,fc⟩)) (W3.setCell ⟨b7,3,none⟩ (.slice (some ⟨g2,0,none⟩) (i+1) c2)) from hH.set (by simpa using h107) _) (fun hH=>?_)
       clear hK K c3 f3 hl7
       try simp only [Act.put,List.setIfInBounds_toArray,pb,pc]
       refine wpAnyH_done (by kernel_rfl) ?_ _
       have HN:=jH (HL1.out.next HBS.out HC.out HUB.out J2.out HO.out ⟨HR.out.1,HR.out.2.1,HR.out.2.2.1⟩ HRW.out HG2.out HW2.out)
       rw [← HW3.out] at HN
       generalize (W3.setCell ⟨b7,3,none⟩ (.slice (some ⟨g2,0,none⟩) (i+1) c2))=W4 at HN ⊢
       clear HRW HG2 HW2 A72 HF HO HR J2 HZ hH hq
       go_wp2_with fail
       exact ⟨⟨i+1,hlt,_,_,_,_,_,rfl,HN.out⟩,HMS.out⟩
      ·obtain ⟨_,_,_,c3,_⟩:=A72.out.rg
       have f3:=A72.out.rgF 3
       have hl7:=A72.out.lt
       go_simp
       go_wp2_with fail
       refine hK.out _ _ (show (fun W=>At W b10 (Fv.o ⟨k,m,r,s,fa,fn,fc⟩)) (W2.setCell ⟨b7,3,none⟩ (.slice (some ⟨g2,0,none⟩) (i+1) c2)) from hH.set (by simpa using h107) _) (fun hH=>?_)
       clear hK K c3 f3 hl7
       try simp only [Act.put,List.setIfInBounds_toArray,pb,pc]
       have HRX:=own_grow HRW.out ((But.refl b7 W2).set 3 (.slice (some ⟨g2,0,none⟩) (i+1) c2)) (fun g e=>by simp only [Value.ownBlock,Option.some.injEq] at e;intro e2;cases e2;exact hne7 e.symm)
       refine aRd [9] ?_
       refine AllReadyH.cons (o:={ dst:=none,op:=.store 43 (.tmp 44) (.tmp 40),type:=0,pos := "number.go:37",after:=_,guard:=none }) rfl (fun K hK=>?_) AllReadyH.nil
       rw [if_pos (by rfl)]
       refine wp_store_mid 43 (.tmp 44) (.tmp 40) rfl g2 (i*5) (t5 ⟨fk,fm0,fr0,fs,fa0,fn0,fcap⟩).toArray rfl rfl (there_row HRX (HXL.out _)) size46 (all_oneCell_toArray (t5_ones _)) ?_
       refine hK.out _ _ (show (fun W=>At W b10 (Fv.o ⟨k,m,r,s,fa,fn,fc⟩)) ((W2.setCell ⟨b7,3,none⟩ (.slice (some ⟨g2,0,none⟩) (i+1) c2)).setCells g2 (i*5) (t5 ⟨fk,fm0,fr0,fs,fa0,fn0,fcap⟩)) from hH.but (but_setCells g2 _ (i*5) _) hne2) (fun hH=>?_)
       clear hK K
       try simp only [Act.put,List.setIfInBounds_toArray,pb,pc]
       refine wpAnyH_done (by kernel_rfl) ?_ _
       have HN:=jH (HL1.out.next HBS.out HC.out HUB.out J2.out HO.out ⟨HR.out.1,HR.out.2.1,HR.out.2.2.1⟩ HRW.out HG2.out HW2.out)
       rw [← setCells_comm ⟨b7,3,none⟩ _ g2 (by simpa using hne7)] at HN
       generalize ((W2.setCell ⟨b7,3,none⟩ (.slice (some ⟨g2,0,none⟩) (i+1) c2)).setCells g2 (i*5) (t5 ⟨fk,fm0,fr0,fs,fa0,fn0,fcap⟩))=W4 at HN ⊢
       clear HRW HG2 HW2 A72 HF HO HR J2 HZ hH hq
       go_wp2_with fail
       exact ⟨⟨i+1,hlt,_,_,_,_,_,rfl,HN.out⟩,HMS.out⟩
   ·go_simp
    refine (CT.out V0 J0.out).mono ?_
    rintro e V1 ⟨⟨fk,fm0,fr0,fs,fa0,fn0,fcap⟩,rfl,hP⟩
    have J1:=jH hP.j
    have HO:=jH hP.own.toL
    have hls:V0.heap.size≤V1.heap.size:=hP.size
    have hus:U.heap.size≤V0.heap.size:=J0.out.but.size
    have HR:Hid (U.heap.size≤V0.heap.size∧V0.heap.size≤V1.heap.size∧V1.heap.size≤V1.heap.size):=jH ⟨hus,hls,Nat.le_refl _⟩
    clear hP hls hus
    go_wp2_with fail
    refine hK.out _ _ (show (fun W=>At W b10 (Fv.o ⟨k,m,r,s,fa,fn,fc⟩)) V1 from HSS.out _ J1.out.but) (fun hH=>?_)
    clear hK K
    try simp only [Act.put,List.setIfInBounds_toArray,pb,pc]
    obtain ⟨l1,h1,HO2,HR2⟩:∃ l1 h1,Hid (OwnL V1 l1 h1 ⟨fk,fm0,fr0,fs,fa0,fn0,fcap⟩ (numC (cntL lv (cl.take i)) c))∧Hid (U.heap.size≤l1∧l1≤h1∧h1≤V1.heap.size):=⟨_,_,HO,HR⟩
    clear HO HR
    have HO:=HO2
    have HR:=HR2
    clear HO2 HR2 J0
    refine aRd [1,6] ?_
    refine AllReadyH.cons rfl (fun K hK=>?_) (AllReadyH.cons rfl (fun K hK=>?_) (AllReadyH.nil))
    ·obtain ⟨_,_,_,c3,_⟩:=J1.out.a7.rg
     go_simp
     go_wp2_with fail
     refine hK.out _ _ hH (fun hH=>?_)
     clear hK K c3
     try simp only [Act.put,List.setIfInBounds_toArray,pb,pc]
     refine tz 5 41 (.int .i64 (i:Int)) hq rfl rfl hH ?_
     simp only [pb,pc]
     refine aRd [6] ?_
     refine AllReadyH.cons rfl (fun K hK=>?_) (AllReadyH.nil)
     ·go_simp
      go_wp2_with fail
      have J2:=jH (J1.out.keep (belA bR (o:=zT.o)))
      have HZ:Hid (At (V1.alloc zT.o) V1.heap.size zT.o):=jH (At.new _ _)
      have hz1:U.heap.size≤V1.heap.size:=J1.out.but.size
      have HO2:=jH (HO.out.bel (belA bR (o:=zT.o)))
      have HR2:Hid (U.heap.size≤l1∧l1≤h1∧h1≤(V1.alloc zT.o).heap.size∧(V1.heap.size<l1∨h1≤V1.heap.size)):=jH ⟨HR.out.1,HR.out.2.1,Nat.le_trans HR.out.2.2 (belA bR (o:=zT.o)).size,.inr HR.out.2.2⟩
      refine hK.out _ _ (show (fun W=>At W b10 (Fv.o ⟨k,m,r,s,fa,fn,fc⟩)) (V1.alloc zT.o) from HSS.out _ J2.out.but) (fun hH=>?_)
      clear hK K
      try simp only [Act.put,List.setIfInBounds_toArray,pb,pc]
      clear HO HR
      have HO:=HO2
      have HR:=HR2
      clear HO2 HR2
      obtain ⟨bz,hbz⟩:∃ bz,bz=V1.heap.size:=⟨_,rfl⟩
      rw [← hbz] at HZ hz1 HR ⊢
      generalize (V1.alloc zT.o)=V2 at J2 HZ HO HR hH ⊢
      clear J1 hbz
      refine aRd [7] ?_
      refine AllReadyH.cons (o:={ dst:=some 43,op:=.call { callee:=.builtin .append,args:=#[.tmp 37,.tmp 42],argTypes:=#[41,41] },type:=41,pos := "number.go:37",after:=_,guard:=none }) rfl (fun K hK=>?_) AllReadyH.nil
      rw [if_pos (by rfl)]
      have HF:=jH (HROW.out.grow J2.out.but (fun b hb=>by cases hb;exact h7B))
      obtain ⟨g2,c2,W2,hrun,hrow2,hg2,hw2⟩:=app1 HF.out HZ.out hnl hi5 (Nat.le_trans HBU.out.1 (Nat.le_of_lt (Nat.lt_of_lt_of_le HBU.out.2 J2.out.but.size)))
      have hlo2:∀ b,(Value.slice aL i cL).ownBlock=some b→B≤b∧b<b10:=fun b e=>HLO.out b e
      have hzz:b10<V2.heap.size:=Nat.lt_of_lt_of_le HBU.out.2 J2.out.but.size
      have HS2:At W2 b10 (Fv.o ⟨k,m,r,s,fa,fn,fc⟩):=hH.grown hg2 (fun e=>Nat.lt_irrefl _ (hlo2 _ e.symm).2)
      obtain ⟨hB2,hne2⟩:=g2_of hlo2 hw2 HBU.out.1 hzz
      have hne7:b7≠g2:=Nat.ne_of_lt (Nat.lt_of_lt_of_le h7B hB2)
      have A72:=jH (J2.out.a7.grown hg2 (fun e=>absurd (hlo2 b7 e.symm).1 (Nat.not_le.2 h7B)))
      have HW2:=jH hw2
      have HG2:=jH hg2
      have HRW:=jH hrow2
      refine wp_append1 rfl rfl rfl hrun ?_
      refine hK.out _ _ HS2 (fun hH=>?_)
      clear hK K hrun hrow2 hg2 hw2 hlo2 hzz HS2
      try simp only [Act.put,List.setIfInBounds_toArray,pb,pc]
      refine tz 8 44 (.pointer (some ⟨g2,i*5,none⟩)) hq rfl rfl hH ?_
      simp only [pb,pc]
      refine tz 10 45 (.pointer (some ⟨b7,3,none⟩)) hq rfl rfl hH ?_
      simp only [pb,pc]
      refine aRd [9,11] ?_
      refine AllReadyH.cons (o:={ dst:=none,op:=.store 43 (.tmp 44) (.tmp 40),type:=0,pos := "number.go:37",after:=_,guard:=none }) rfl (fun K hK=>?_) (AllReadyH.cons rfl (fun K hK=>?_) AllReadyH.nil)
      ·rw [if_pos (by rfl)]
       refine wp_store_mid 43 (.tmp 44) (.tmp 40) rfl g2 (i*5) (t5 ⟨fk,fm0,fr0,fs,fa0,fn0,fcap⟩).toArray rfl rfl (there_row HRW.out (HXL.out _)) size46 (all_oneCell_toArray (t5_ones _)) ?_
       refine hK.out _ _ (show (fun W=>At W b10 (Fv.o ⟨k,m,r,s,fa,fn,fc⟩)) (W2.setCells g2 (i*5) (t5 ⟨fk,fm0,fr0,fs,fa0,fn0,fcap⟩)) from hH.but (but_setCells g2 _ (i*5) W2) hne2) (fun hH=>?_)
       clear hK K
       try simp only [Act.put,List.setIfInBounds_toArray,pb,pc]
       have A73:=A72.out.but (but_setCells g2 (t5 ⟨fk,fm0,fr0,fs,fa0,fn0,fcap⟩) (i*5) W2) hne7
       refine aR1 11 rfl (fun K hK=>?_)
       have HEQ:Hid ((W2.setCells g2 (i*5) (t5 ⟨fk,fm0,fr0,fs,fa0,fn0,fcap⟩))=(W2.setCells g2 (i*5) (t5 ⟨fk,fm0,fr0,fs,fa0,fn0,fcap⟩))):=jH rfl
       obtain ⟨W3,hW3⟩:∃ W3,W3=W2.setCells g2 (i*5) (t5 ⟨fk,fm0,fr0,fs,fa0,fn0,fcap⟩):=⟨_,rfl⟩
       have HW3:=jH hW3
       rw [← hW3] at A73 hH ⊢
       clear hW3 HEQ
       obtain ⟨_,_,_,c3,_⟩:=A73.rg
       have f3:=A73.rgF 3
       have hl7:=A73.lt
       go_simp
       go_wp2_with fail
       refine hK.out _ _ (show (fun W=>At W b10 (Fv.o ⟨k,m,r,s,fa,fn,fc⟩)) (W3.setCell ⟨b7,3,none⟩ (.slice (some ⟨g2,0,none⟩) (i+1) c2)) from hH.set (by simpa using h107) _) (fun hH=>?_)
       clear hK K c3 f3 hl7
       try simp only [Act.put,List.setIfInBounds_toArray,pb,pc]
       refine wpAnyH_done (by kernel_rfl) ?_ _
       have HN:=jH (HL1.out.next HBS.out HC.out HUB.out J2.out HO.out ⟨HR.out.1,HR.out.2.1,HR.out.2.2.1⟩ HRW.out HG2.out HW2.out)
       rw [← HW3.out] at HN
       generalize (W3.setCell ⟨b7,3,none⟩ (.slice (some ⟨g2,0,none⟩) (i+1) c2))=W4 at HN ⊢
       clear HRW HG2 HW2 A72 HF HO HR J2 HZ hH hq
       go_wp2_with fail
       exact ⟨⟨i+1,hlt,_,_,_,_,_,rfl,HN.out⟩,HMS.out⟩
      ·obtain ⟨_,_,_,c3,_⟩:=A72.out.rg
       have f3:=A72.out.rgF 3
       have hl7:=A72.out.lt
       go_simp
       go_wp2_with fail
       refine hK.out _ _ (show (fun W=>At W b10 (Fv.o ⟨k,m,r,s,fa,fn,fc⟩)) (W2.setCell ⟨b7,3,none⟩ (.slice (some ⟨g2,0,none⟩) (i+1) c2)) from hH.set (by simpa using h107) _) (fun hH=>?_)
       clear hK K c3 f3 hl7
       try simp only [Act.put,List.setIfInBounds_toArray,pb,pc]
       have HRX:=own_grow HRW.out ((But.refl b7 W2).set 3 (.slice (some ⟨g2,0,none⟩) (i+1) c2)) (fun g e=>by simp only [Value.ownBlock,Option.some.injEq] at e;intro e2;cases e2;exact hne7 e.symm)
       refine aRd [9] ?_
       refine AllReadyH.cons (o:={ dst:=none,op:=.store 43 (.tmp 44) (.tmp 40),type:=0,pos := "number.go:37",after:=_,guard:=none }) rfl (fun K hK=>?_) AllReadyH.nil
       rw [if_pos (by rfl)]
       refine wp_store_mid 43 (.tmp 44) (.tmp 40) rfl g2 (i*5) (t5 ⟨fk,fm0,fr0,fs,fa0,fn0,fcap⟩).toArray rfl rfl (there_row HRX (HXL.out _)) size46 (all_oneCell_toArray (t5_ones _)) ?_
       refine hK.out _ _ (show (fun W=>At W b10 (Fv.o ⟨k,m,r,s,fa,fn,fc⟩)) ((W2.setCell ⟨b7,3,none⟩ (.slice (some ⟨g2,0,none⟩) (i+1) c2)).setCells g2 (i*5) (t5 ⟨fk,fm0,fr0,fs,fa0,fn0,fcap⟩)) from hH.but (but_setCells g2 _ (i*5) _) hne2) (fun hH=>?_)
       clear hK K
       try simp only [Act.put,List.setIfInBounds_toArray,pb,pc]
       refine wpAnyH_done (by kernel_rfl) ?_ _
       have HN:=jH (HL1.out.next HBS.out HC.out HUB.out J2.out HO.out ⟨HR.out.1,HR.out.2.1,HR.out.2.2.1⟩ HRW.out HG2.out HW2.out)
       rw [← setCells_comm ⟨b7,3,none⟩ _ g2 (by simpa using hne7)] at HN
       generalize ((W2.setCell ⟨b7,3,none⟩ (.slice (some ⟨g2,0,none⟩) (i+1) c2)).setCells g2 (i*5) (t5 ⟨fk,fm0,fr0,fs,fa0,fn0,fcap⟩))=W4 at HN ⊢
       clear HRW HG2 HW2 A72 HF HO HR J2 HZ hH hq
       go_wp2_with fail
       exact ⟨⟨i+1,hlt,_,_,_,_,_,rfl,HN.out⟩,HMS.out⟩
    ·go_simp
     go_wp2_with fail
     have J2:=jH (J1.out.keep (belA bR (o:=zT.o)))
     have HZ:Hid (At (V1.alloc zT.o) V1.heap.size zT.o):=jH (At.new _ _)
     have hz1:U.heap.size≤V1.heap.size:=J1.out.but.size
     have HO2:=jH (HO.out.bel (belA bR (o:=zT.o)))
     have HR2:Hid (U.heap.size≤l1∧l1≤h1∧h1≤(V1.alloc zT.o).heap.size∧(V1.heap.size<l1∨h1≤V1.heap.size)):=jH ⟨HR.out.1,HR.out.2.1,Nat.le_trans HR.out.2.2 (belA bR (o:=zT.o)).size,.inr HR.out.2.2⟩
     refine hK.out _ _ (show (fun W=>At W b10 (Fv.o ⟨k,m,r,s,fa,fn,fc⟩)) (V1.alloc zT.o) from HSS.out _ J2.out.but) (fun hH=>?_)
     clear hK K
     try simp only [Act.put,List.setIfInBounds_toArray,pb,pc]
     clear HO HR
     have HO:=HO2
     have HR:=HR2
     clear HO2 HR2
     obtain ⟨bz,hbz⟩:∃ bz,bz=V1.heap.size:=⟨_,rfl⟩
     rw [← hbz] at HZ hz1 HR ⊢
     generalize (V1.alloc zT.o)=V2 at J2 HZ HO HR hH ⊢
     clear J1 hbz
     refine aRd [1] ?_
     refine AllReadyH.cons rfl (fun K hK=>?_) (AllReadyH.nil)
     ·obtain ⟨_,_,_,c3,_⟩:=J2.out.a7.rg
      go_simp
      go_wp2_with fail
      refine hK.out _ _ hH (fun hH=>?_)
      clear hK K c3
      try simp only [Act.put,List.setIfInBounds_toArray,pb,pc]
      refine tz 5 41 (.int .i64 (i:Int)) hq rfl rfl hH ?_
      simp only [pb,pc]
      refine aRd [7] ?_
      refine AllReadyH.cons (o:={ dst:=some 43,op:=.call { callee:=.builtin .append,args:=#[.tmp 37,.tmp 42],argTypes:=#[41,41] },type:=41,pos := "number.go:37",after:=_,guard:=none }) rfl (fun K hK=>?_) AllReadyH.nil
      rw [if_pos (by rfl)]
      have HF:=jH (HROW.out.grow J2.out.but (fun b hb=>by cases hb;exact h7B))
      obtain ⟨g2,c2,W2,hrun,hrow2,hg2,hw2⟩:=app1 HF.out HZ.out hnl hi5 (Nat.le_trans HBU.out.1 (Nat.le_of_lt (Nat.lt_of_lt_of_le HBU.out.2 J2.out.but.size)))
      have hlo2:∀ b,(Value.slice aL i cL).ownBlock=some b→B≤b∧b<b10:=fun b e=>HLO.out b e
      have hzz:b10<V2.heap.size:=Nat.lt_of_lt_of_le HBU.out.2 J2.out.but.size
      have HS2:At W2 b10 (Fv.o ⟨k,m,r,s,fa,fn,fc⟩):=hH.grown hg2 (fun e=>Nat.lt_irrefl _ (hlo2 _ e.symm).2)
      obtain ⟨hB2,hne2⟩:=g2_of hlo2 hw2 HBU.out.1 hzz
      have hne7:b7≠g2:=Nat.ne_of_lt (Nat.lt_of_lt_of_le h7B hB2)
      have A72:=jH (J2.out.a7.grown hg2 (fun e=>absurd (hlo2 b7 e.symm).1 (Nat.not_le.2 h7B)))
      have HW2:=jH hw2
      have HG2:=jH hg2
      have HRW:=jH hrow2
      refine wp_append1 rfl rfl rfl hrun ?_
      refine hK.out _ _ HS2 (fun hH=>?_)
      clear hK K hrun hrow2 hg2 hw2 hlo2 hzz HS2
      try simp only [Act.put,List.setIfInBounds_toArray,pb,pc]
      refine tz 8 44 (.pointer (some ⟨g2,i*5,none⟩)) hq rfl rfl hH ?_
      simp only [pb,pc]
      refine tz 10 45 (.pointer (some ⟨b7,3,none⟩)) hq rfl rfl hH ?_
      simp only [pb,pc]
      refine aRd [9,11] ?_
      refine AllReadyH.cons (o:={ dst:=none,op:=.store 43 (.tmp 44) (.tmp 40),type:=0,pos := "number.go:37",after:=_,guard:=none }) rfl (fun K hK=>?_) (AllReadyH.cons rfl (fun K hK=>?_) AllReadyH.nil)
      ·rw [if_pos (by rfl)]
       refine wp_store_mid 43 (.tmp 44) (.tmp 40) rfl g2 (i*5) (t5 ⟨fk,fm0,fr0,fs,fa0,fn0,fcap⟩).toArray rfl rfl (there_row HRW.out (HXL.out _)) size46 (all_oneCell_toArray (t5_ones _)) ?_
       refine hK.out _ _ (show (fun W=>At W b10 (Fv.o ⟨k,m,r,s,fa,fn,fc⟩)) (W2.setCells g2 (i*5) (t5 ⟨fk,fm0,fr0,fs,fa0,fn0,fcap⟩)) from hH.but (but_setCells g2 _ (i*5) W2) hne2) (fun hH=>?_)
       clear hK K
       try simp only [Act.put,List.setIfInBounds_toArray,pb,pc]
       have A73:=A72.out.but (but_setCells g2 (t5 ⟨fk,fm0,fr0,fs,fa0,fn0,fcap⟩) (i*5) W2) hne7
       refine aR1 11 rfl (fun K hK=>?_)
       have HEQ:Hid ((W2.setCells g2 (i*5) (t5 ⟨fk,fm0,fr0,fs,fa0,fn0,fcap⟩))=(W2.setCells g2 (i*5) (t5 ⟨fk,fm0,fr0,fs,fa0,fn0,fcap⟩))):=jH rfl
       obtain ⟨W3,hW3⟩:∃ W3,W3=W2.setCells g2 (i*5) (t5 ⟨fk,fm0,fr0,fs,fa0,fn0,fcap⟩):=⟨_,rfl⟩
       have HW3:=jH hW3
       rw [← hW3] at A73 hH ⊢
       clear hW3 HEQ
       obtain ⟨_,_,_,c3,_⟩:=A73.rg
       have f3:=A73.rgF 3
       have hl7:=A73.lt
       go_simp
       go_wp2_with fail
       refine hK.out _ _ (show (fun W=>At W b10 (Fv.o ⟨k,m,r,s,fa,fn,fc⟩)) (W3.setCell ⟨b7,3,none⟩ (.slice (some ⟨g2,0,none⟩) (i+1) c2)) from hH.set (by simpa using h107) _) (fun hH=>?_)
       clear hK K c3 f3 hl7
       try simp only [Act.put,List.setIfInBounds_toArray,pb,pc]
       refine wpAnyH_done (by kernel_rfl) ?_ _
       have HN:=jH (HL1.out.next HBS.out HC.out HUB.out J2.out HO.out ⟨HR.out.1,HR.out.2.1,HR.out.2.2.1⟩ HRW.out HG2.out HW2.out)
       rw [← HW3.out] at HN
       generalize (W3.setCell ⟨b7,3,none⟩ (.slice (some ⟨g2,0,none⟩) (i+1) c2))=W4 at HN ⊢
       clear HRW HG2 HW2 A72 HF HO HR J2 HZ hH hq
       go_wp2_with fail
       exact ⟨⟨i+1,hlt,_,_,_,_,_,rfl,HN.out⟩,HMS.out⟩
      ·obtain ⟨_,_,_,c3,_⟩:=A72.out.rg
       have f3:=A72.out.rgF 3
       have hl7:=A72.out.lt
       go_simp
       go_wp2_with fail
       refine hK.out _ _ (show (fun W=>At W b10 (Fv.o ⟨k,m,r,s,fa,fn,fc⟩)) (W2.setCell ⟨b7,3,none⟩ (.slice (some ⟨g2,0,none⟩) (i+1) c2)) from hH.set (by simpa using h107) _) (fun hH=>?_)
       clear hK K c3 f3 hl7
       try simp only [Act.put,List.setIfInBounds_toArray,pb,pc]
       have HRX:=own_grow HRW.out ((But.refl b7 W2).set 3 (.slice (some ⟨g2,0,none⟩) (i+1) c2)) (fun g e=>by simp only [Value.ownBlock,Option.some.injEq] at e;intro e2;cases e2;exact hne7 e.symm)
       refine aRd [9] ?_
       refine AllReadyH.cons (o:={ dst:=none,op:=.store 43 (.tmp 44) (.tmp 40),type:=0,pos := "number.go:37",after:=_,guard:=none }) rfl (fun K hK=>?_) AllReadyH.nil
       rw [if_pos (by rfl)]
       refine wp_store_mid 43 (.tmp 44) (.tmp 40) rfl g2 (i*5) (t5 ⟨fk,fm0,fr0,fs,fa0,fn0,fcap⟩).toArray rfl rfl (there_row HRX (HXL.out _)) size46 (all_oneCell_toArray (t5_ones _)) ?_
       refine hK.out _ _ (show (fun W=>At W b10 (Fv.o ⟨k,m,r,s,fa,fn,fc⟩)) ((W2.setCell ⟨b7,3,none⟩ (.slice (some ⟨g2,0,none⟩) (i+1) c2)).setCells g2 (i*5) (t5 ⟨fk,fm0,fr0,fs,fa0,fn0,fcap⟩)) from hH.but (but_setCells g2 _ (i*5) _) hne2) (fun hH=>?_)
       clear hK K
       try simp only [Act.put,List.setIfInBounds_toArray,pb,pc]
       refine wpAnyH_done (by kernel_rfl) ?_ _
       have HN:=jH (HL1.out.next HBS.out HC.out HUB.out J2.out HO.out ⟨HR.out.1,HR.out.2.1,HR.out.2.2.1⟩ HRW.out HG2.out HW2.out)
       rw [← setCells_comm ⟨b7,3,none⟩ _ g2 (by simpa using hne7)] at HN
       generalize ((W2.setCell ⟨b7,3,none⟩ (.slice (some ⟨g2,0,none⟩) (i+1) c2)).setCells g2 (i*5) (t5 ⟨fk,fm0,fr0,fs,fa0,fn0,fcap⟩))=W4 at HN ⊢
       clear HRW HG2 HW2 A72 HF HO HR J2 HZ hH hq
       go_wp2_with fail
       exact ⟨⟨i+1,hlt,_,_,_,_,_,rfl,HN.out⟩,HMS.out⟩
   ·go_simp
    go_wp2_with fail
    have J1:=jH (J0.out.keep (belA bR (o:=zT.o)))
    have HZ:Hid (At (V0.alloc zT.o) V0.heap.size zT.o):=jH (At.new _ _)
    have hz1:U.heap.size≤V0.heap.size:=J0.out.but.size
    have HZS:Hid (V0.heap.size<(V0.alloc zT.o).heap.size):=jH (by simp)
    refine hK.out _ _ (show (fun W=>At W b10 (Fv.o ⟨k,m,r,s,fa,fn,fc⟩)) (V0.alloc zT.o) from HSS.out _ J1.out.but) (fun hH=>?_)
    clear hK K
    try simp only [Act.put,List.setIfInBounds_toArray,pb,pc]
    obtain ⟨bz,hbz⟩:∃ bz,bz=V0.heap.size:=⟨_,rfl⟩
    rw [← hbz] at HZ hz1 HZS ⊢
    generalize (V0.alloc zT.o)=V1 at J1 HZ HZS hH ⊢
    clear J0 hbz
    refine aRd [1,4] ?_
    refine AllReadyH.cons rfl (fun K hK=>?_) (AllReadyH.cons rfl (fun K hK=>?_) (AllReadyH.nil))
    ·obtain ⟨_,_,_,c3,_⟩:=J1.out.a7.rg
     go_simp
     go_wp2_with fail
     refine hK.out _ _ hH (fun hH=>?_)
     clear hK K c3
     try simp only [Act.put,List.setIfInBounds_toArray,pb,pc]
     refine tz 5 41 (.int .i64 (i:Int)) hq rfl rfl hH ?_
     simp only [pb,pc]
     refine aRd [4] ?_
     refine AllReadyH.cons rfl (fun K hK=>?_) (AllReadyH.nil)
     ·go_simp
      refine (CT.out V1 J1.out).mono ?_
      rintro e V2 ⟨⟨fk,fm0,fr0,fs,fa0,fn0,fcap⟩,rfl,hP⟩
      have J2:=jH hP.j
      have HO:=jH hP.own.toL
      have hls:V1.heap.size≤V2.heap.size:=hP.size
      have hus:U.heap.size≤V1.heap.size:=J1.out.but.size
      have HZ2:=jH (hP.keep bz zT HZ.out)
      have HR:Hid (U.heap.size≤V1.heap.size∧V1.heap.size≤V2.heap.size∧V2.heap.size≤V2.heap.size∧(bz<V1.heap.size∨V2.heap.size≤bz)):=jH ⟨hus,hls,Nat.le_refl _,.inl HZS.out⟩
      clear hP hls hus
      go_wp2_with fail
      refine hK.out _ _ (show (fun W=>At W b10 (Fv.o ⟨k,m,r,s,fa,fn,fc⟩)) V2 from HSS.out _ J2.out.but) (fun hH=>?_)
      clear hK K
      try simp only [Act.put,List.setIfInBounds_toArray,pb,pc]
      clear HZ HZS
      have HZ:=HZ2
      clear HZ2
      obtain ⟨l1,h1,HO2,HR2⟩:∃ l1 h1,Hid (OwnL V2 l1 h1 ⟨fk,fm0,fr0,fs,fa0,fn0,fcap⟩ (numC (cntL lv (cl.take i)) c))∧Hid (U.heap.size≤l1∧l1≤h1∧h1≤V2.heap.size∧(bz<l1∨h1≤bz)):=⟨_,_,HO,HR⟩
      clear HO HR
      have HO:=HO2
      have HR:=HR2
      clear HO2 HR2 J1
      refine aRd [7] ?_
      refine AllReadyH.cons (o:={ dst:=some 43,op:=.call { callee:=.builtin .append,args:=#[.tmp 37,.tmp 42],argTypes:=#[41,41] },type:=41,pos := "number.go:37",after:=_,guard:=none }) rfl (fun K hK=>?_) AllReadyH.nil
      rw [if_pos (by rfl)]
      have HF:=jH (HROW.out.grow J2.out.but (fun b hb=>by cases hb;exact h7B))
      obtain ⟨g2,c2,W2,hrun,hrow2,hg2,hw2⟩:=app1 HF.out HZ.out hnl hi5 (Nat.le_trans HBU.out.1 (Nat.le_of_lt (Nat.lt_of_lt_of_le HBU.out.2 J2.out.but.size)))
      have hlo2:∀ b,(Value.slice aL i cL).ownBlock=some b→B≤b∧b<b10:=fun b e=>HLO.out b e
      have hzz:b10<V2.heap.size:=Nat.lt_of_lt_of_le HBU.out.2 J2.out.but.size
      have HS2:At W2 b10 (Fv.o ⟨k,m,r,s,fa,fn,fc⟩):=hH.grown hg2 (fun e=>Nat.lt_irrefl _ (hlo2 _ e.symm).2)
      obtain ⟨hB2,hne2⟩:=g2_of hlo2 hw2 HBU.out.1 hzz
      have hne7:b7≠g2:=Nat.ne_of_lt (Nat.lt_of_lt_of_le h7B hB2)
      have A72:=jH (J2.out.a7.grown hg2 (fun e=>absurd (hlo2 b7 e.symm).1 (Nat.not_le.2 h7B)))
      have HW2:=jH hw2
      have HG2:=jH hg2
      have HRW:=jH hrow2
      refine wp_append1 rfl rfl rfl hrun ?_
      refine hK.out _ _ HS2 (fun hH=>?_)
      clear hK K hrun hrow2 hg2 hw2 hlo2 hzz HS2
      try simp only [Act.put,List.setIfInBounds_toArray,pb,pc]
      refine tz 8 44 (.pointer (some ⟨g2,i*5,none⟩)) hq rfl rfl hH ?_
      simp only [pb,pc]
      refine tz 10 45 (.pointer (some ⟨b7,3,none⟩)) hq rfl rfl hH ?_
      simp only [pb,pc]
      refine aRd [9,11] ?_
      refine AllReadyH.cons (o:={ dst:=none,op:=.store 43 (.tmp 44) (.tmp 40),type:=0,pos := "number.go:37",after:=_,guard:=none }) rfl (fun K hK=>?_) (AllReadyH.cons rfl (fun K hK=>?_) AllReadyH.nil)
      ·rw [if_pos (by rfl)]
       refine wp_store_mid 43 (.tmp 44) (.tmp 40) rfl g2 (i*5) (t5 ⟨fk,fm0,fr0,fs,fa0,fn0,fcap⟩).toArray rfl rfl (there_row HRW.out (HXL.out _)) size46 (all_oneCell_toArray (t5_ones _)) ?_
       refine hK.out _ _ (show (fun W=>At W b10 (Fv.o ⟨k,m,r,s,fa,fn,fc⟩)) (W2.setCells g2 (i*5) (t5 ⟨fk,fm0,fr0,fs,fa0,fn0,fcap⟩)) from hH.but (but_setCells g2 _ (i*5) W2) hne2) (fun hH=>?_)
       clear hK K
       try simp only [Act.put,List.setIfInBounds_toArray,pb,pc]
       have A73:=A72.out.but (but_setCells g2 (t5 ⟨fk,fm0,fr0,fs,fa0,fn0,fcap⟩) (i*5) W2) hne7
       refine aR1 11 rfl (fun K hK=>?_)
       have HEQ:Hid ((W2.setCells g2 (i*5) (t5 ⟨fk,fm0,fr0,fs,fa0,fn0,fcap⟩))=(W2.setCells g2 (i*5) (t5 ⟨fk,fm0,fr0,fs,fa0,fn0,fcap⟩))):=jH rfl
       obtain ⟨W3,hW3⟩:∃ W3,W3=W2.setCells g2 (i*5) (t5 ⟨fk,fm0,fr0,fs,fa0,fn0,fcap⟩):=⟨_,rfl⟩
       have HW3:=jH hW3
       rw [← hW3] at A73 hH ⊢
       clear hW3 HEQ
       obtain ⟨_,_,_,c3,_⟩:=A73.rg
       have f3:=A73.rgF 3
       have hl7:=A73.lt
       go_simp
       go_wp2_with fail
       refine hK.out _ _ (show (fun W=>At W b10 (Fv.o ⟨k,m,r,s,fa,fn,fc⟩)) (W3.setCell ⟨b7,3,none⟩ (.slice (some ⟨g2,0,none⟩) (i+1) c2)) from hH.set (by simpa using h107) _) (fun hH=>?_)
       clear hK K c3 f3 hl7
       try simp only [Act.put,List.setIfInBounds_toArray,pb,pc]
       refine wpAnyH_done (by kernel_rfl) ?_ _
       have HN:=jH (HL1.out.next HBS.out HC.out HUB.out J2.out HO.out ⟨HR.out.1,HR.out.2.1,HR.out.2.2.1⟩ HRW.out HG2.out HW2.out)
       rw [← HW3.out] at HN
       generalize (W3.setCell ⟨b7,3,none⟩ (.slice (some ⟨g2,0,none⟩) (i+1) c2))=W4 at HN ⊢
       clear HRW HG2 HW2 A72 HF HO HR J2 HZ hH hq
       go_wp2_with fail
       exact ⟨⟨i+1,hlt,_,_,_,_,_,rfl,HN.out⟩,HMS.out⟩
      ·obtain ⟨_,_,_,c3,_⟩:=A72.out.rg
       have f3:=A72.out.rgF 3
       have hl7:=A72.out.lt
       go_simp
       go_wp2_with fail
       refine hK.out _ _ (show (fun W=>At W b10 (Fv.o ⟨k,m,r,s,fa,fn,fc⟩)) (W2.setCell ⟨b7,3,none⟩ (.slice (some ⟨g2,0,none⟩) (i+1) c2)) from hH.set (by simpa using h107) _) (fun hH=>?_)
       clear hK K c3 f3 hl7
       try simp only [Act.put,List.setIfInBounds_toArray,pb,pc]
       have HRX:=own_grow HRW.out ((But.refl b7 W2).set 3 (.slice (some ⟨g2,0,none⟩) (i+1) c2)) (fun g e=>by simp only [Value.ownBlock,Option.some.injEq] at e;intro e2;cases e2;exact hne7 e.symm)
       refine aRd [9] ?_
       refine AllReadyH.cons (o:={ dst:=none,op:=.store 43 (.tmp 44) (.tmp 40),type:=0,pos := "number.go:37",after:=_,guard:=none }) rfl (fun K hK=>?_) AllReadyH.nil
       rw [if_pos (by rfl)]
       refine wp_store_mid 43 (.tmp 44) (.tmp 40) rfl g2 (i*5) (t5 ⟨fk,fm0,fr0,fs,fa0,fn0,fcap⟩).toArray rfl rfl (there_row HRX (HXL.out _)) size46 (all_oneCell_toArray (t5_ones _)) ?_
       refine hK.out _ _ (show (fun W=>At W b10 (Fv.o ⟨k,m,r,s,fa,fn,fc⟩)) ((W2.setCell ⟨b7,3,none⟩ (.slice (some ⟨g2,0,none⟩) (i+1) c2)).setCells g2 (i*5) (t5 ⟨fk,fm0,fr0,fs,fa0,fn0,fcap⟩)) from hH.but (but_setCells g2 _ (i*5) _) hne2) (fun hH=>?_)
       clear hK K
       try simp only [Act.put,List.setIfInBounds_toArray,pb,pc]
       refine wpAnyH_done (by kernel_rfl) ?_ _
       have HN:=jH (HL1.out.next HBS.out HC.out HUB.out J2.out HO.out ⟨HR.out.1,HR.out.2.1,HR.out.2.2.1⟩ HRW.out HG2.out HW2.out)
       rw [← setCells_comm ⟨b7,3,none⟩ _ g2 (by simpa using hne7)] at HN
       generalize ((W2.setCell ⟨b7,3,none⟩ (.slice (some ⟨g2,0,none⟩) (i+1) c2)).setCells g2 (i*5) (t5 ⟨fk,fm0,fr0,fs,fa0,fn0,fcap⟩))=W4 at HN ⊢
       clear HRW HG2 HW2 A72 HF HO HR J2 HZ hH hq
       go_wp2_with fail
       exact ⟨⟨i+1,hlt,_,_,_,_,_,rfl,HN.out⟩,HMS.out⟩
    ·go_simp
     refine (CT.out V1 J1.out).mono ?_
     rintro e V2 ⟨⟨fk,fm0,fr0,fs,fa0,fn0,fcap⟩,rfl,hP⟩
     have J2:=jH hP.j
     have HO:=jH hP.own.toL
     have hls:V1.heap.size≤V2.heap.size:=hP.size
     have hus:U.heap.size≤V1.heap.size:=J1.out.but.size
     have HZ2:=jH (hP.keep bz zT HZ.out)
     have HR:Hid (U.heap.size≤V1.heap.size∧V1.heap.size≤V2.heap.size∧V2.heap.size≤V2.heap.size∧(bz<V1.heap.size∨V2.heap.size≤bz)):=jH ⟨hus,hls,Nat.le_refl _,.inl HZS.out⟩
     clear hP hls hus
     go_wp2_with fail
     refine hK.out _ _ (show (fun W=>At W b10 (Fv.o ⟨k,m,r,s,fa,fn,fc⟩)) V2 from HSS.out _ J2.out.but) (fun hH=>?_)
     clear hK K
     try simp only [Act.put,List.setIfInBounds_toArray,pb,pc]
     clear HZ HZS
     have HZ:=HZ2
     clear HZ2
     obtain ⟨l1,h1,HO2,HR2⟩:∃ l1 h1,Hid (OwnL V2 l1 h1 ⟨fk,fm0,fr0,fs,fa0,fn0,fcap⟩ (numC (cntL lv (cl.take i)) c))∧Hid (U.heap.size≤l1∧l1≤h1∧h1≤V2.heap.size∧(bz<l1∨h1≤bz)):=⟨_,_,HO,HR⟩
     clear HO HR
     have HO:=HO2
     have HR:=HR2
     clear HO2 HR2 J1
     refine aRd [1] ?_
     refine AllReadyH.cons rfl (fun K hK=>?_) (AllReadyH.nil)
     ·obtain ⟨_,_,_,c3,_⟩:=J2.out.a7.rg
      go_simp
      go_wp2_with fail
      refine hK.out _ _ hH (fun hH=>?_)
      clear hK K c3
      try simp only [Act.put,List.setIfInBounds_toArray,pb,pc]
      refine tz 5 41 (.int .i64 (i:Int)) hq rfl rfl hH ?_
      simp only [pb,pc]
      refine aRd [7] ?_
      refine AllReadyH.cons (o:={ dst:=some 43,op:=.call { callee:=.builtin .append,args:=#[.tmp 37,.tmp 42],argTypes:=#[41,41] },type:=41,pos := "number.go:37",after:=_,guard:=none }) rfl (fun K hK=>?_) AllReadyH.nil
      rw [if_pos (by rfl)]
      have HF:=jH (HROW.out.grow J2.out.but (fun b hb=>by cases hb;exact h7B))
      obtain ⟨g2,c2,W2,hrun,hrow2,hg2,hw2⟩:=app1 HF.out HZ.out hnl hi5 (Nat.le_trans HBU.out.1 (Nat.le_of_lt (Nat.lt_of_lt_of_le HBU.out.2 J2.out.but.size)))
      have hlo2:∀ b,(Value.slice aL i cL).ownBlock=some b→B≤b∧b<b10:=fun b e=>HLO.out b e
      have hzz:b10<V2.heap.size:=Nat.lt_of_lt_of_le HBU.out.2 J2.out.but.size
      have HS2:At W2 b10 (Fv.o ⟨k,m,r,s,fa,fn,fc⟩):=hH.grown hg2 (fun e=>Nat.lt_irrefl _ (hlo2 _ e.symm).2)
      obtain ⟨hB2,hne2⟩:=g2_of hlo2 hw2 HBU.out.1 hzz
      have hne7:b7≠g2:=Nat.ne_of_lt (Nat.lt_of_lt_of_le h7B hB2)
      have A72:=jH (J2.out.a7.grown hg2 (fun e=>absurd (hlo2 b7 e.symm).1 (Nat.not_le.2 h7B)))
      have HW2:=jH hw2
      have HG2:=jH hg2
      have HRW:=jH hrow2
      refine wp_append1 rfl rfl rfl hrun ?_
      refine hK.out _ _ HS2 (fun hH=>?_)
      clear hK K hrun hrow2 hg2 hw2 hlo2 hzz HS2
      try simp only [Act.put,List.setIfInBounds_toArray,pb,pc]
      refine tz 8 44 (.pointer (some ⟨g2,i*5,none⟩)) hq rfl rfl hH ?_
      simp only [pb,pc]
      refine tz 10 45 (.pointer (some ⟨b7,3,none⟩)) hq rfl rfl hH ?_
      simp only [pb,pc]
      refine aRd [9,11] ?_
      refine AllReadyH.cons (o:={ dst:=none,op:=.store 43 (.tmp 44) (.tmp 40),type:=0,pos := "number.go:37",after:=_,guard:=none }) rfl (fun K hK=>?_) (AllReadyH.cons rfl (fun K hK=>?_) AllReadyH.nil)
      ·rw [if_pos (by rfl)]
       refine wp_store_mid 43 (.tmp 44) (.tmp 40) rfl g2 (i*5) (t5 ⟨fk,fm0,fr0,fs,fa0,fn0,fcap⟩).toArray rfl rfl (there_row HRW.out (HXL.out _)) size46 (all_oneCell_toArray (t5_ones _)) ?_
       refine hK.out _ _ (show (fun W=>At W b10 (Fv.o ⟨k,m,r,s,fa,fn,fc⟩)) (W2.setCells g2 (i*5) (t5 ⟨fk,fm0,fr0,fs,fa0,fn0,fcap⟩)) from hH.but (but_setCells g2 _ (i*5) W2) hne2) (fun hH=>?_)
       clear hK K
       try simp only [Act.put,List.setIfInBounds_toArray,pb,pc]
       have A73:=A72.out.but (but_setCells g2 (t5 ⟨fk,fm0,fr0,fs,fa0,fn0,fcap⟩) (i*5) W2) hne7
       refine aR1 11 rfl (fun K hK=>?_)
       have HEQ:Hid ((W2.setCells g2 (i*5) (t5 ⟨fk,fm0,fr0,fs,fa0,fn0,fcap⟩))=(W2.setCells g2 (i*5) (t5 ⟨fk,fm0,fr0,fs,fa0,fn0,fcap⟩))):=jH rfl
       obtain ⟨W3,hW3⟩:∃ W3,W3=W2.setCells g2 (i*5) (t5 ⟨fk,fm0,fr0,fs,fa0,fn0,fcap⟩):=⟨_,rfl⟩
       have HW3:=jH hW3
       rw [← hW3] at A73 hH ⊢
       clear hW3 HEQ
       obtain ⟨_,_,_,c3,_⟩:=A73.rg
       have f3:=A73.rgF 3
       have hl7:=A73.lt
       go_simp
       go_wp2_with fail
       refine hK.out _ _ (show (fun W=>At W b10 (Fv.o ⟨k,m,r,s,fa,fn,fc⟩)) (W3.setCell ⟨b7,3,none⟩ (.slice (some ⟨g2,0,none⟩) (i+1) c2)) from hH.set (by simpa using h107) _) (fun hH=>?_)
       clear hK K c3 f3 hl7
       try simp only [Act.put,List.setIfInBounds_toArray,pb,pc]
       refine wpAnyH_done (by kernel_rfl) ?_ _
       have HN:=jH (HL1.out.next HBS.out HC.out HUB.out J2.out HO.out ⟨HR.out.1,HR.out.2.1,HR.out.2.2.1⟩ HRW.out HG2.out HW2.out)
       rw [← HW3.out] at HN
       generalize (W3.setCell ⟨b7,3,none⟩ (.slice (some ⟨g2,0,none⟩) (i+1) c2))=W4 at HN ⊢
       clear HRW HG2 HW2 A72 HF HO HR J2 HZ hH hq
       go_wp2_with fail
       exact ⟨⟨i+1,hlt,_,_,_,_,_,rfl,HN.out⟩,HMS.out⟩
      ·obtain ⟨_,_,_,c3,_⟩:=A72.out.rg
       have f3:=A72.out.rgF 3
       have hl7:=A72.out.lt
       go_simp
       go_wp2_with fail
       refine hK.out _ _ (show (fun W=>At W b10 (Fv.o ⟨k,m,r,s,fa,fn,fc⟩)) (W2.setCell ⟨b7,3,none⟩ (.slice (some ⟨g2,0,none⟩) (i+1) c2)) from hH.set (by simpa using h107) _) (fun hH=>?_)
       clear hK K c3 f3 hl7
       try simp only [Act.put,List.setIfInBounds_toArray,pb,pc]
       have HRX:=own_grow HRW.out ((But.refl b7 W2).set 3 (.slice (some ⟨g2,0,none⟩) (i+1) c2)) (fun g e=>by simp only [Value.ownBlock,Option.some.injEq] at e;intro e2;cases e2;exact hne7 e.symm)
       refine aRd [9] ?_
       refine AllReadyH.cons (o:={ dst:=none,op:=.store 43 (.tmp 44) (.tmp 40),type:=0,pos := "number.go:37",after:=_,guard:=none }) rfl (fun K hK=>?_) AllReadyH.nil
       rw [if_pos (by rfl)]
       refine wp_store_mid 43 (.tmp 44) (.tmp 40) rfl g2 (i*5) (t5 ⟨fk,fm0,fr0,fs,fa0,fn0,fcap⟩).toArray rfl rfl (there_row HRX (HXL.out _)) size46 (all_oneCell_toArray (t5_ones _)) ?_
       refine hK.out _ _ (show (fun W=>At W b10 (Fv.o ⟨k,m,r,s,fa,fn,fc⟩)) ((W2.setCell ⟨b7,3,none⟩ (.slice (some ⟨g2,0,none⟩) (i+1) c2)).setCells g2 (i*5) (t5 ⟨fk,fm0,fr0,fs,fa0,fn0,fcap⟩)) from hH.but (but_setCells g2 _ (i*5) _) hne2) (fun hH=>?_)
       clear hK K
       try simp only [Act.put,List.setIfInBounds_toArray,pb,pc]
       refine wpAnyH_done (by kernel_rfl) ?_ _
       have HN:=jH (HL1.out.next HBS.out HC.out HUB.out J2.out HO.out ⟨HR.out.1,HR.out.2.1,HR.out.2.2.1⟩ HRW.out HG2.out HW2.out)
       rw [← setCells_comm ⟨b7,3,none⟩ _ g2 (by simpa using hne7)] at HN
       generalize ((W2.setCell ⟨b7,3,none⟩ (.slice (some ⟨g2,0,none⟩) (i+1) c2)).setCells g2 (i*5) (t5 ⟨fk,fm0,fr0,fs,fa0,fn0,fcap⟩))=W4 at HN ⊢
       clear HRW HG2 HW2 A72 HF HO HR J2 HZ hH hq
       go_wp2_with fail
       exact ⟨⟨i+1,hlt,_,_,_,_,_,rfl,HN.out⟩,HMS.out⟩
  ·have ei:i=ln:=by omega
   have et:cl.take i=cl:=by rw [ei,HLL.out];exact List.take_length
   have hil:i=cl.length:=by rw [ei];exact HLL.out
   have hL:=HL1.out
   obtain ⟨x2,x4,x6,x7,x8,xr,xb,xB⟩:=hL
   rw [et] at x7 xr
   have z1:¬ (i:Int)<(ln:Int):=by omega
   obtain ⟨c0,hc0⟩:∃ c0,c0=cntL lv cl:=⟨_,rfl⟩
   rw [← hc0] at x7
   have HC0:=jH hc0
   have hcb:=cntL_le cl lv (fun d hd=>by have:=(HI.out.ok d hd).deep;have:=regs_le d;omega)
   have HCB:Hid (0≤c0∧c0≤40000):=jH (by have:=HI.out.cln;omega)
   have H2:=jH x2
   have H4:=jH x4
   have H7:=jH x7
   have H8:=jH x8
   have HRW:=jH xr
   have HXB:=jH xb
   have HXB0:=jH xB
   have HIL:=jH hil
   obtain ⟨g0,g1,g2,g3,g4,g5,g6⟩:=x6.cells
   simp only [Nat.zero_add] at g0 g1 g2 g3 g4 g5 g6
   have hl6:=x6.1
   clear x2 x4 x6 x7 x8 xr xb xB hc0 hcb HL1 et hil ei
   obtain ⟨V5,rfl⟩:∃ V5,V5=wr:=⟨_,rfl⟩
   go_wp2_with fail
   clear g0 g1 g2 g3 g4 g5 g6 hl6
   have hbs:=HBS.out
   have h7V:b7<V5.heap.size:=by have:=hbs.h8;have:=hbs.hB;have:=HXB0.out;omega
   have w7:w.heap.size+2≤b7:=by have:=hbs.h6;have:=hbs.h7;omega
   have n87:b8≠b7:=by have:=hbs.h8;omega
   have HARI:=jH (And.intro h7V (And.intro w7 n87))
   clear hbs h7V w7 n87
   go_loopw [50] (fun v V=>∃ q:Nat,q≤qn∧∃ aA cA,v=.int .i64 (q:Int)∧But b7 V5 V∧At V b7 (rgO lv qn (cntP gs c0 (g.pt.take q)) (.slice aL i cL) (.slice aA q cA))∧V.ownsRow V5.heap.size 3 1 (.slice aA q cA) q (iCells (atR gs c0 (g.pt.take q)))) (fun v _=>qn - (intOf v).toNat)
   case atStart=>exact ⟨0,Nat.zero_le _,none,0,rfl,But.refl _ _,H7.out,World.ownsRow_nil _ _ _ _⟩
   case round =>
    obtain ⟨q,hq,aA,cA,rfl,hBut,hA7,hRow⟩:=hrel
    obtain ⟨ar1,ar2,ar3⟩:=HARI.out
    have hBel:Below w.heap.size w wr:=HXB.out.grown hBut HXB.out.size (fun k e=>by cases e;omega)
    have hA2:At wr w.heap.size (uO a n cap (some ⟨ug,uo,none⟩) un ucap mn):=H2.out.but hBut (by omega)
    have hA4:At wr (w.heap.size+1) (rgO 0 0 0 (.slice none 0 0) (.slice none 0 0)):=H4.out.but hBut (by omega)
    have hA8:At wr b8 (One (fnB 104 b7) 177):=H8.out.but hBut ar3
    have hPL:∀ p∈g.pt.take q,0≤made gs p∧made gs p≤8:=fun p hp=>HI.out.few (List.mem_of_mem_take hp)
    have hcn:=cntP_le gs (g.pt.take q) c0 hPL
    have hlt2:(g.pt.take q).length≤1024:=by rw [List.length_take];omega
    obtain ⟨cn,hcn2⟩:∃ cn,cn=cntP gs c0 (g.pt.take q):=⟨_,rfl⟩
    rw [← hcn2] at hA7 hcn
    have hcb:=HCB.out
    have cn0:0≤cn:=by omega
    have cn1:cn≤900000:=by omega
    have HCN:=jH hcn2
    have HBut:=jH hBut
    have HA7:=jH hA7
    have HRow:=jH hRow
    have HBel:=jH hBel
    have HA2:=jH hA2
    have HA4:=jH hA4
    have HA8:=jH hA8
    clear hBut hA7 hRow hBel hA2 hA4 hA8 hPL hcn hlt2 hcn2 hcb
    by_cases hlt:q<qn
    ·obtain ⟨p,hp⟩:∃ p,g.pt[q]?=some p:=⟨_,List.getElem?_eq_getElem (by rw [← HQQ.out];exact hlt)⟩
     obtain ⟨pg,po,pv,ep,hpg,hrng,hpnt⟩:=HPS.out.at_ q p hp
     have hmem:=List.mem_of_getElem? hp
     have hfew:=HI.out.few hmem
     obtain ⟨mk,hmk⟩:∃ mk,mk=made gs p:=⟨_,rfl⟩
     rw [← hmk] at hfew
     obtain ⟨mk0,mk8⟩:=hfew
     have hop:pv.op=p.op:=hpnt.op
     have hfn:pv.fn=p.fn:=hpnt.fn
     have CM:Hid (∀ W,Below w.heap.size w W→Calls Tryz.prog 107 #[uV a n cap (some ⟨ug,uo,none⟩) un ucap mn,.agg (pC pv).toArray] W fun e w'=>e=.returned (.int .i64 mk)∧Below W.heap.size W w'):=jH fun W hW=>by
      have:=madeAt_any a (some ⟨ug,uo,none⟩) n cap un ucap mn pv.op pv.tp.l pv.tp.a pv.tp.n pv.tp.cap pv.a.k pv.a.n pv.a.x.l pv.a.x.a pv.a.x.n pv.a.x.cap pv.b.k pv.b.n pv.b.x.l pv.b.x.a pv.b.x.n pv.b.x.cap pv.ra pv.rn pv.rc pv.sg pv.fp.l pv.fp.a pv.fp.n pv.fp.cap pv.mu pv.fn pv.st pv.nx pv.el pv.ps W mk HI.out.un32 (fun e=>by rw [hmk];unfold made;rw [if_pos (by rw [← hop];exact e)]) (fun e=>by
       obtain ⟨j',g',h1,h2,h3,h4,h5,h6⟩:=HI.out.call p hmem (by rw [← hop];exact e)
       obtain ⟨h7,h8⟩:=h6 ug uo rfl
       refine ⟨j',ug,uo,by rw [hfn];exact h1,h2,rfl,Nat.lt_of_lt_of_le h7 hW.size,?_⟩
       rw [(hW.cell (p:=⟨ug,uo+j'*7+1,none⟩) h7),h8,hmk]
       unfold made
       rw [if_neg (by rw [← hop,e];decide),if_pos (by rw [← hop];exact e),h1,Int.toNat_natCast,h3]
       rfl) (fun e4 e7=>by rw [hmk];unfold made;rw [if_neg (by rw [← hop];exact e4),if_neg (by rw [← hop];exact e7)])
      exact this
     have ep2:qa=some ⟨pg,po,none⟩:=ep
     subst ep2
     have HRNG:Hid (wr.rangeAt pg (po+q*21) (pC pv)):=jH (rng_bel hpg hrng HBel.out)
     have HNX:Hid (cntP gs c0 (g.pt.take (q+1))=cn+mk∧atR gs c0 (g.pt.take (q+1))=atR gs c0 (g.pt.take q)++[if 0<mk then cn else -1]):=jH (by
      rw [List.take_add_one,hp,HCN.out,hmk]
      exact ⟨cntP_snoc _ _ _ _,atR_snoc _ _ _ _⟩)
     have q0:(0:Int)≤(q:Int):=by omega
     have q1:(q:Int)<(qn:Int):=by omega
     have HLT:=jH hlt
     have hlp:=HBel.out.size
     have hpgl:pg<wr.heap.size:=Nat.lt_of_lt_of_le hpg hlp
     clear hp hrng hpnt ep hlt hq hpg hmem hmk hop hfn hlp
     go_upto_region 12 with (first
      | ((with_reducible show wpList _ _ _ (Oper.mk (some _) (Op.load 118 _) _ _ _ none::_) _ _);refine wpl_load64 pg (po+q*21) (pC pv) rfl rfl HRNG.out Tryz.underlying118 rfl ?_)
      | ((with_reducible show wpList _ _ _ (Oper.mk none (Op.store 118 _ _) _ _ _ none::_) _ _);refine wpl_store64 wr.heap.size (there_new wr _ _ 21 rfl) (by simp) pv rfl rfl ?_;intro w3 hr3 hl3 hb3;have HR3:=jH hr3;have HL3:=jH hl3;have HBT3:=jH hb3;clear hr3 hb3 hl3))
     have vs:V5.heap.size≤wr.heap.size:=HBut.out.size
     have k3:But b7 V5 w3:=but_more (HBut.out.trans (But.below (belA bR))) HBT3.out vs
     have k7:=(HA7.out.alloc _).but HBT3.out (by have:=HA7.out.lt;omega)
     have k2:=(HA2.out.alloc _).but HBT3.out (by have:=HA2.out.lt;omega)
     have k4:=(HA4.out.alloc _).but HBT3.out (by have:=HA4.out.lt;omega)
     have k8:=(HA8.out.alloc _).but HBT3.out (by have:=HA8.out.lt;omega)
     have kr:=own_grow (HRow.out.alloc _) HBT3.out (fun g e=>by have:=(HRow.out.lt g e).2;intro e2;cases e2;omega)
     have kb:=HXB.out.grown k3 HXB.out.size (fun k e=>by cases e;omega)
     have K3:=jH k3
     have K7:=jH k7
     have K2:=jH k2
     have K8:=jH k8
     have KR:=jH kr
     have KB:=jH kb
     obtain ⟨b12,hb12⟩:∃ b12,b12=wr.heap.size:=⟨_,rfl⟩
     rw [← hb12] at HR3 HL3 ⊢
     clear k3 k7 k2 k4 k8 kr kb HA7 HA2 HA4 HA8 HRow HBel HBut HBT3 vs hpgl HRNG hb12
     obtain ⟨u0,u1,u2⟩:=K2.out.un
     go_upto_region 14 with (first
      | ((with_reducible show wpList _ _ _ (Oper.mk (some _) (Op.load 118 _) _ _ _ none::_) _ _);refine wpl_load64 b12 0 (pC pv) rfl rfl HR3.out Tryz.underlying118 rfl ?_)
      | (go_at_call 107;refine (CM.out _ KB.out).mono ?_;rintro e w4 ⟨rfl,hb4⟩;have HB4:=jH hb4;clear hb4))
     have K34:=jH (K3.out.trans (But.below HB4.out))
     have K74:=jH (K7.out.below HB4.out)
     have K84:=jH (K8.out.below HB4.out)
     have KR4:=jH (own_bel KR.out HB4.out)
     clear K3 K7 K2 K8 KR KB HB4 HR3 HL3 u0 u1 u2 CM
     have HFI:Hid (∀ (x:Int) (W5:World),But b7 V5 W5→At W5 b7 (rgO lv qn (cn+mk) (.slice aL i cL) (.slice aA q cA))→W5.ownsRow V5.heap.size 3 1 (.slice aA q cA) q (iCells (atR gs c0 (g.pt.take q)))→∀ g5 c5 w6,w6.ownsRow V5.heap.size 3 1 (.slice (some ⟨g5,0,none⟩) (q+1) c5) (q+1) (iCells (atR gs c0 (g.pt.take q))++[.int .i64 x])→(W5.alloc (.cells #[.int .i64 x] 3)).grownBy w6 (Value.slice aA q cA).ownBlock→At w6 b7 (rgO lv qn (cn+mk) (.slice aL i cL) (.slice aA q cA))∧But b7 V5 (w6.setCell ⟨b7,4,none⟩ (.slice (some ⟨g5,0,none⟩) (q+1) c5))∧At (w6.setCell ⟨b7,4,none⟩ (.slice (some ⟨g5,0,none⟩) (q+1) c5)) b7 (rgO lv qn (cn+mk) (.slice aL i cL) (.slice (some ⟨g5,0,none⟩) (q+1) c5))∧(w6.setCell ⟨b7,4,none⟩ (.slice (some ⟨g5,0,none⟩) (q+1) c5)).ownsRow V5.heap.size 3 1 (.slice (some ⟨g5,0,none⟩) (q+1) c5) (q+1) (iCells (atR gs c0 (g.pt.take q)++[x]))):=jH fun x W5 h1 h2 h3 g5 c5 w6 h4 h5=>at_next ar1 h1 h2 h3 h4 h5
     obtain ⟨i0,hi0,hz0,hz1,hz2⟩:=info_parts Tryz.info3
     have ones:∀ (x:Int),∀ u∈([Value.int .i64 x]:List Value),u.oneCell'=true:=fun x u hu=>by simp at hu;subst hu;rfl
     have HONES:=jH ones
     have HNEWS:Hid (∀ (W:World) (x:Int),∀ j u,([Value.int .i64 x]:List Value)[j]?=some u→(W.alloc (.cells #[.int .i64 x] 3)).cell? ((⟨W.heap.size,0,none⟩:Addr).add j)=some u):=jH fun W x j u hu=>by
      cases j with
      | zero=>simp at hu;subst hu;simp [Addr.add,cell_of_one (At.new W (One (.int .i64 x) 3))]
      | succ j=>simp at hu
     clear ones
     have hq9:q+1≤2000:=by have:=HLT.out;omega
     by_cases hm:0<mk
     ·have CN:=jH (next_any w4 b7 lv qn cn mk (.slice aL i cL) (.slice aA q cA) K74.out cn0 (by omega) mk0 mk8)
      obtain ⟨c8,f8⟩:=K84.out.one
      have hl8:=K84.out.lt
      have W5s:Hid (But b7 V5 (w4.setCell ⟨b7,2,none⟩ (.int .i64 (cn+mk)))∧At (w4.setCell ⟨b7,2,none⟩ (.int .i64 (cn+mk))) b7 (rgO lv qn (cn+mk) (.slice aL i cL) (.slice aA q cA))∧(w4.setCell ⟨b7,2,none⟩ (.int .i64 (cn+mk))).ownsRow V5.heap.size 3 1 (.slice aA q cA) q (iCells (atR gs c0 (g.pt.take q)))):=jH ⟨K34.out.set 2 _,K74.out.rg2 _,own_grow KR4.out ((But.refl b7 w4).set 2 _) (fun g e=>by have:=own_lo KR4.out g e;intro e2;cases e2;omega)⟩
      go_upto_region 16 with (go_at_call 104;refine CN.out.mono ?_;rintro e w5 ⟨rfl,hw5⟩;rw [← hw5] at W5s;clear hw5)
      clear c8 f8 hl8 CN K34 K74 K84 KR4
      obtain ⟨d0,d1,d2,d3,d4⟩:=W5s.out.2.1.rg
      have f4:=W5s.out.2.1.rgF 4
      have hl7:=W5s.out.2.1.lt
      have hbase:V5.heap.size≤(w5.alloc (.cells #[.int .i64 cn] 3)).heap.size:=by have:=W5s.out.1.size;simp only [World.size_alloc];omega
      go_wp2_with (at_builtin;refine wpList_append_own _ rfl _ _ 55 rfl V5.heap.size 3 i0 (.int .i64 0) 1 8 Tryz.underlying55 hi0 hz0 hz1 hz2 rfl (by decide) _ q _ rfl (W5s.out.2.2.alloc _) ⟨w5.heap.size,0,none⟩ 1 1 [.int .i64 cn] rfl rfl (HNEWS.out w5 cn) (HONES.out cn) (by unfold maxLen;omega) (by omega) hbase ?_;intro v' w6 ho6 hg6 hn6;obtain ⟨g5,c5,hv5⟩:=own_is ho6 (by omega);subst hv5;have HF6:=jH (HFI.out cn w5 W5s.out.1 W5s.out.2.1 W5s.out.2.2 g5 c5 w6 ho6 hg6);obtain ⟨e0,e1,e2,e3,e4⟩:=HF6.out.1.rg;have f46:=HF6.out.1.rgF 4;have hl76:=HF6.out.1.lt;clear ho6 hg6 hn6 d0 d1 d2 d3 d4)
      refine ⟨⟨q+1,HLT.out,some ⟨g5,0,none⟩,c5,rfl,HF6.out.2.1,?_,?_⟩,?_⟩
      ·rw [HNX.out.1];exact HF6.out.2.2.1
      ·rw [HNX.out.2,if_pos hm];exact HF6.out.2.2.2
      ·show qn - ((q:Int)+1).toNat<qn - (q:Int).toNat
       have:=HLT.out
       omega
     ·have em:mk=0:=by omega
      have W5s:Hid (But b7 V5 w4∧At w4 b7 (rgO lv qn (cn+mk) (.slice aL i cL) (.slice aA q cA))∧w4.ownsRow V5.heap.size 3 1 (.slice aA q cA) q (iCells (atR gs c0 (g.pt.take q)))):=jH ⟨K34.out,by rw [em,Int.add_zero];exact K74.out,KR4.out⟩
      clear K34 K74 K84 KR4
      obtain ⟨d0,d1,d2,d3,d4⟩:=W5s.out.2.1.rg
      have f4:=W5s.out.2.1.rgF 4
      have hl7:=W5s.out.2.1.lt
      have HEM:=jH em
      clear em
      have hbase:V5.heap.size≤(w4.alloc (.cells #[.int .i64 (-1)] 3)).heap.size:=by have:=W5s.out.1.size;simp only [World.size_alloc];omega
      go_wp2_with (at_builtin;refine wpList_append_own _ rfl _ _ 55 rfl V5.heap.size 3 i0 (.int .i64 0) 1 8 Tryz.underlying55 hi0 hz0 hz1 hz2 rfl (by decide) _ q _ rfl (W5s.out.2.2.alloc _) ⟨w4.heap.size,0,none⟩ 1 1 [.int .i64 (-1)] rfl rfl (HNEWS.out w4 (-1)) (HONES.out (-1)) (by unfold maxLen;omega) (by omega) hbase ?_;intro v' w6 ho6 hg6 hn6;obtain ⟨g5,c5,hv5⟩:=own_is ho6 (by omega);subst hv5;have HF6:=jH (HFI.out (-1) w4 W5s.out.1 W5s.out.2.1 W5s.out.2.2 g5 c5 w6 ho6 hg6);obtain ⟨e0,e1,e2,e3,e4⟩:=HF6.out.1.rg;have f46:=HF6.out.1.rgF 4;have hl76:=HF6.out.1.lt;clear ho6 hg6 hn6 d0 d1 d2 d3 d4)
      refine ⟨⟨q+1,HLT.out,some ⟨g5,0,none⟩,c5,rfl,HF6.out.2.1,?_,?_⟩,?_⟩
      ·rw [HNX.out.1];exact HF6.out.2.2.1
      ·rw [HNX.out.2,if_neg hm];exact HF6.out.2.2.2
      ·show qn - ((q:Int)+1).toNat<qn - (q:Int).toNat
       have:=HLT.out
       omega
    ·have eq:q=qn:=by omega
     have et:g.pt.take q=g.pt:=by rw [eq,HQQ.out];exact List.take_length
     have z2:¬ (q:Int)<(qn:Int):=by omega
     have hA7:=HA7.out
     have hRow:=HRow.out
     have hcnE:=HCN.out
     rw [et] at hRow hcnE
     have HRow2:=jH hRow
     have HCNE:=jH hcnE
     have hF:FRow wr B (.slice aL i cL) (numR lv cl) fl lo hi2:=HRW.out.grow HBut.out (fun b e=>by cases e;have:=HBS.out;have:=this.h8;have:=HBS.out.hB;omega)
     have HF:=jH hF
     obtain ⟨d0,d1,d2,d3,d4⟩:=hA7.rg
     have hl7:=hA7.lt
     have hA4:=HA4.out
     have f0:=hA4.rgF 0
     have f1:=hA4.rgF 1
     have f2:=hA4.rgF 2
     have f3:=hA4.rgF 3
     have f4:=hA4.rgF 4
     obtain ⟨q0,q1,q2,q3,q4⟩:=hA4.rg
     have hl4:=hA4.lt
     have HEQ:=jH eq
     clear hRow hcnE hF hA7 HRow HA7 et HA2 HA8 HRW H2 H4 H7 H8 eq
     by_cases hc5:cn≤512
     ·have hc6:¬ 512<cn:=by omega
      go_wp2_with fail
      have F1:=HA4.out.set5R lv qn cn aL i cL aA q cA
      have e1:lv=g.lv:=HLV.out
      have e2:qn=g.pt.length:=HQQ.out
      have e3:i=cl.length:=HIL.out
      have e4:q=qn:=HEQ.out
      have e5:cn=cntP gs c0 g.pt:=HCNE.out
      have e6:c0=cntL lv cl:=HC0.out
      have w1:w.heap.size+1<B:=by have:=HBS.out;have:=this.h6;have:=HBS.out.h7;have:=HBS.out.h8;have:=HBS.out.hB;omega
      have hFin:=HF.out.grow (but_s5r wr (w.heap.size+1) lv qn cn aL i cL aA q cA) (fun b e=>by cases e;exact w1)
      have hRin:=own_grow HRow2.out (but_s5r wr (w.heap.size+1) lv qn cn aL i cL aA q cA) (fun b e=>by have:=own_lo HRow2.out b e;have:=HXB0.out;intro e2;cases e2;omega)
      have hEE:Ending.returned (.tuple #[rgV lv qn cn (.slice aL i cL) (.slice aA q cA),.int .i64 0])=Ending.returned (.tuple #[rgV g.lv g.pt.length (cntP gs (cntL g.lv cl) g.pt) (.slice aL cl.length cL) (.slice aA g.pt.length cA),.int .i64 0]):=by rw [e5,e6,e1,e3,e4,e2]
      obtain ⟨W9,hW9⟩:∃ W9,W9=S5R wr (w.heap.size+1) lv qn cn aL i cL aA q cA:=⟨_,rfl⟩
      rw [← hW9] at hFin hRin
      have hPost:RgPost w gs g cl (.returned (.tuple #[rgV lv qn cn (.slice aL i cL) (.slice aA q cA),.int .i64 0])) W9:=by
       unfold RgPost
       refine ⟨fun _=>⟨aL,cL,aA,cA,fl,lo,hi2,hEE,?_,?_⟩,fun h=>absurd h ?_⟩
       ·rw [← e1,← e3];exact hFin.low (by omega)
       ·rw [← e1,← e6,← e2,← e4];exact own_low hRin HXB.out.size
       ·rw [← e1,← e6,← e5];omega
      have hBl:Below w.heap.size w (S5R wr (w.heap.size+1) lv qn cn aL i cL aA q cA):=(HXB.out.grown HBut.out HXB.out.size (fun k e=>by cases e;omega)).grown (but_s5r wr (w.heap.size+1) lv qn cn aL i cL aA q cA) (Nat.le_trans HXB.out.size HBut.out.size) (fun k e=>by cases e;omega)
      rw [hW9] at hPost
      exact bodyPost_ret (results_r2 (v:=.int .i64 0) (lv:=lv) (np:=qn) (cn:=cn) (vL:=.slice aL i cL) (vA:=.slice aA q cA) Tryz.results85 rfl rfl F1) rfl ⟨hPost,hBl⟩
     ·have hc6:512<cn:=by omega
      go_wp2_with fail
      have F1:=HA4.out.set5R 0 0 0 none 0 0 none 0 0
      have e1:lv=g.lv:=HLV.out
      have e5:cn=cntP gs c0 g.pt:=HCNE.out
      have e6:c0=cntL lv cl:=HC0.out
      have hPost:RgPost w gs g cl (.returned (.tuple #[rgV 0 0 0 (.slice none 0 0) (.slice none 0 0),.int .i64 5])) (S5R wr (w.heap.size+1) 0 0 0 none 0 0 none 0 0):=by
       unfold RgPost
       refine ⟨fun h=>absurd h ?_,fun _=>rfl⟩
       rw [← e1,← e6,← e5];omega
      have hBl:Below w.heap.size w (S5R wr (w.heap.size+1) 0 0 0 none 0 0 none 0 0):=(HXB.out.grown HBut.out HXB.out.size (fun k e=>by cases e;omega)).grown (but_s5r wr (w.heap.size+1) 0 0 0 none 0 0 none 0 0) (Nat.le_trans HXB.out.size HBut.out.size) (fun k e=>by cases e;omega)
      exact bodyPost_ret (results_r2 (v:=.int .i64 5) (lv:=0) (np:=0) (cn:=0) (vL:=.slice none 0 0) (vA:=.slice none 0 0) Tryz.results85 rfl rfl F1) rfl ⟨hPost,hBl⟩
end Go.Proofs.YtmjenlogbkbgnaaGreatDoor
