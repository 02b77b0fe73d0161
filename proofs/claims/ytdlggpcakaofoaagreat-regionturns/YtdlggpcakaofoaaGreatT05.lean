import Derived.Test.YtdlggpcakaofoaaGreatT04
namespace Go.Proofs.YtdlggpcakaofoaaGreat
open Go.RowKit Go.Shelf
set_option linter.unusedVariables false
set_option linter.unusedSimpArgs false
set_option maxRecDepth 100000
set_option maxHeartbeats 16000000
theorem vr_a {V V0 w1:World} {f:Fv} {c:Ch} (h0:Below V.heap.size V V0) (hN:New (V0.alloc zT.o) w1 f c):Vr V (S5 w1 V0.heap.size f) V0.heap.size f c (V0.heap.size+1) w1.heap.size∧Below V.heap.size V (S5 w1 V0.heap.size f):=by
 have hA:At w1 V0.heap.size zT.o:=(At.new V0 zT.o).below hN.bel
 have hs:=h0.size
 have hs1:=hN.bel.size
 simp only [World.size_alloc] at hs1
 have ho:=hN.own
 simp only [World.size_alloc] at ho
 exact ⟨⟨hA.set5 f,ho.keep fun g o h1 h2 hg=>hg.S5 (by omega) f,by omega,hs1,by rw [size_S5];exact Nat.le_refl _,.inl (by omega),hs⟩,below_s5 (jB h0 (below1 hN.bel)) hs f⟩
theorem vr_b {V V0 w1:World} {f:Fv} {c:Ch} (h0:Below V.heap.size V V0) (hN:New V0 w1 f c):Vr V (S5 (w1.alloc zT.o) w1.heap.size f) w1.heap.size f c V0.heap.size w1.heap.size∧Below V.heap.size V (S5 (w1.alloc zT.o) w1.heap.size f):=by
 have hA:At (w1.alloc zT.o) w1.heap.size zT.o:=At.new w1 zT.o
 have hs:=h0.size
 have hs1:=hN.bel.size
 exact ⟨⟨hA.set5 f,(hN.own.bel (belA bR)).keep fun g o h1 h2 hg=>hg.S5 (by omega) f,hs,hs1,by rw [size_S5,World.size_alloc];omega,.inr (Nat.le_refl _),by omega⟩,below_s5 (belA (jB h0 hN.bel)) (by omega) f⟩
theorem there5 {w:World} {b:Nat} {f:Fv} (h:At w b f.o):w.there b 0 5:=fun j hj=>by
 have hA:=h
 unfold At at hA
 refine ⟨?_,frozen_of_row _ _ _ _ _ hA⟩
 rw [cell_of_row _ _ _ _ _ _ hA,Nat.zero_add]
 simp [hj]
theorem turns_main (t:Ty) (f:Fv) (xa:Option Addr) (xn xcap:Nat) (X:List Int) (w:World) (h:TyAt w f t) (hF:FitC 60 t true) (hI:IntR w xa xn xcap X) (hn:xn≤600) (is:Bool) (no:Int) (C E:Ch) (T:TB w f xa xn xcap X is no C E) :
  Calls Tryz.prog 5 #[f.v,.slice xa xn xcap] w fun e w'=>e=.returned (.bool true)∧Below w.heap.size w w':=by
 have CA:Hid (∀ W,Calls Tryz.prog 9 #[] W fun e w'=>e=.returned (.bool true)∧Below W.heap.size W w'):=awake_true
 have CF:Hid (Calls Tryz.prog 26 #[f.v,.int .i64 60] (w.alloc f.o) fun e w'=>e=.returned (.bool true)∧Below (w.alloc f.o).heap.size (w.alloc f.o) w'):=hF f _ (h.bel (belA bR))
 obtain ⟨k,m,r,s,a,n,cap⟩:=f
 show Calls Tryz.prog 5 #[tyV k m r s a n cap,.slice xa xn xcap] w _
 have HT:=jH T
 have HI:=jH hI
 have nb:¬ (600:Int)<(xn:Int):=by omega
 have nb2:(xn:Int)≤600:=by omega
 have A0:Hid (At (w.alloc (tyO k m r s a n cap)) w.heap.size (Fv.o ⟨k,m,r,s,a,n,cap⟩)):=jH (At.new _ _)
 obtain ⟨i0,hi0,hz0,hz1,hz2⟩:=info_parts Tryz.info3
 have HONE:Hid (∀ u∈([Value.int .i64 77]:List Value),u.oneCell'=true):=jH fun u hu=>by simp at hu;subst hu;rfl
 clear h hF hI T
 go_enter Tryz.func5,Tryz.ntmps5
 go_upto_region 4 with (first
  | (go_at_call 26;refine CF.out.mono ?_;rintro e w1 ⟨rfl,hb1⟩;have HB1:=jH (below1 hb1);have A1:=jH (A0.out.below hb1);clear hb1)
  | (at_builtin;refine wpl_append_int rfl _ _ rfl w1.heap.size _ 0 [] rfl (World.ownsRow_nil _ _ _ _) xa xn xcap X rfl (HI.out.bel HB1.out) (by unfold maxLen;omega) (by omega) (Nat.le_refl _) ?_;intro v5 w2 ho2 hg2;simp only [Nat.zero_add,List.nil_append] at ho2;have HO2:=jH ho2;have HB2:Hid (Below w1.heap.size w1 w2):=jH (bR.grown hg2 (Nat.le_refl _) (fun k hk=>by cases (show (none:Option Nat)=some k from hk)));obtain ⟨a5,c5,hv5⟩:=own_sl ho2;subst hv5;clear ho2 hg2)
  | (at_builtin;refine wpList_append_own _ rfl _ _ 33 rfl w1.heap.size 3 i0 (.int .i64 0) 1 8 Tryz.underlying33 hi0 hz0 hz1 hz2 rfl (by decide) _ xn _ rfl (HO2.out.alloc _) ⟨w2.heap.size,0,none⟩ 1 1 [.int .i64 77] rfl rfl (news77 w2) HONE.out (by unfold maxLen;omega) (by omega) (by have:=HB2.out.size;simp only [World.size_alloc];omega) ?_;intro v6 w3 ho3 hg3 hn3;have HO3:=jH ho3;have HG3:=jH hg3;obtain ⟨go,co,hv6⟩:=own_is ho3 (by omega);subst hv6;clear ho3 hg3 hn3))
 have hs12:=HB2.out.size
 have hlow:∀ b,(Value.slice a5 xn c5).ownBlock=some b→w1.heap.size≤b:=fun b e=>own_lo HO2.out b e
 have A1l:=A1.out.lt
 have HA2:=jH (((A1.out.below HB2.out).alloc (.cells #[.int .i64 77] 3)).grown HG3.out (fun e=>by have:=hlow _ e.symm;omega))
 have HB3:=jH ((belA (jB HB1.out HB2.out) (o:=.cells #[.int .i64 77] 3)).grown HG3.out (by have:=HB1.out.size;simp only [World.size_alloc];omega) (fun b e=>by have:=hlow b e;have:=HB1.out.size;omega))
 have HRO:Hid (RowO w3 go co xn X):=jH (rowOwn (B:=w1.heap.size) (by rw [Nat.zero_add];exact HO3.out) HI.out.len.symm)
 have hgo:w.heap.size<go:=by have:=own_lo HO3.out go rfl;omega
 have hco:(xn:Int)+1≤(co:Int):=by have:=HRO.out.cap;omega
 have hcm:co≤maxLen:=HRO.out.max
 clear HO2 HO3 HG3 HB1 HB2 A1 A0 CF hs12 hlow A1l
 have hgw:=HRO.out.lt
 go_cut [6,7] (fun v u W=>∃ b f9 lo hi,v=.pointer (some ⟨b,0,none⟩)∧u=.int .i64 no∧Vr w3 W b f9 C lo hi∧Below w3.heap.size w3 W)
 case first =>
  refine beginH (S:=fun W=>Below w3.heap.size w3 W) (fun _ _ _ _ _ h=>h) (by kernel_rfl) bR.drew (fun hq hH=>?_)
  refine tq 0 31 (tyV k m r s a n cap) hq rfl rfl (fun W hSw=>by (obtain ⟨-,p0,p1,p2,p3,p4⟩:=(HA2.out.below hSw).ty;simp only [Nat.zero_add] at p0 p1 p2 p3 p4;go_simp;try rfl)) hH ?_
  simp only [pb,pc]
  refine tz 1 32 (.slice (some ⟨go,0,none⟩) (xn+1) co) hq rfl rfl hH ?_
  simp only [pb,pc]
  refine tz 2 33 (.slice xa xn xcap) hq rfl rfl hH ?_
  simp only [pb,pc]
  refine tz 3 34 (.int .i64 (xn:Int)) hq rfl rfl hH ?_
  simp only [pb,pc]
  refine tq 4 35 (.slice (some ⟨go,0,none⟩) xn co) hq rfl rfl (fun W hSw=>by (go_simp;try first|rfl|(intro hh;exfalso;omega))) hH ?_
  simp only [pb,pc]
  generalize w3.drew=V0 at hH ⊢
  refine aRd [5,9] ?_
  refine AllReadyH.cons rfl (fun K hK=>?_) (AllReadyH.cons rfl (fun K hK=>?_) AllReadyH.nil)
  ·go_simp
   have h0:=hH
   refine (HT.out.t27 V0 (some ⟨go,0,none⟩) co (jB HB3.out hH) ((HRO.out.below hH).int HI.out.rng)).mono ?_
   rintro e w9 ⟨⟨fk,fm,fr,fs,fa,fn,fc⟩,rfl,hN⟩
   have HVR:=jH (vr_b h0 hN)
   have HZ:Hid (At (w9.alloc zT.o) w9.heap.size zT.o):=jH (At.new _ _)
   have hB9:=jB h0 hN.bel
   clear hN h0
   go_wp2_with fail
   refine hK.out _ _ hB9 (fun hHeld2=>?_)
   clear hK K hH hB9
   have hH:=hHeld2
   clear hHeld2
   try simp only [Act.put,List.setIfInBounds_toArray,pb,pc]
   refine tz 6 30 _ hq rfl rfl hH ?_
   simp only [pb,pc]
   refine tz 7 37 (tyV fk fm fr fs fa fn fc) hq rfl rfl hH ?_
   simp only [pb,pc]
   refine tz 8 38 (.int .i64 no) hq rfl rfl hH ?_
   simp only [pb,pc]
   refine aR1 9 rfl (fun K hK=>?_)
   go_simp
   go_wp2_with fail
   refine hK.out _ _ (belA hH (o:=zT.o)) (fun hHeld2=>?_)
   clear hK K hH
   have hH:=hHeld2
   clear hHeld2
   try simp only [Act.put,List.setIfInBounds_toArray,pb,pc]
   refine aRd [10] ?_
   refine AllReadyH.cons (o:={ dst:=none,op:=.store 46 (.tmp 6) (.tmp 37),type:=0,pos := "law.go:178",after:=_,guard:=none }) rfl (fun K hK=>?_) AllReadyH.nil
   rw [if_pos (by rfl)]
   refine wp_store_mid 46 (.tmp 6) (.tmp 37) rfl w9.heap.size 0 (t5 ⟨fk,fm,fr,fs,fa,fn,fc⟩).toArray rfl rfl (there5 HZ.out) size46 (all_oneCell_toArray (t5_ones _)) ?_
   refine hK.out _ _ HVR.out.2 (fun hH=>?_)
   clear hK K
   try simp only [Act.put,List.setIfInBounds_toArray,pb,pc]
   refine tz 11 7 (.int .i64 no) hq rfl rfl hH ?_
   simp only [pb,pc]
   refine wpAnyH_done (by kernel_rfl) ?_ _
   clear hH hq
   go_wp2_with fail
   go_meet
   exact ⟨_,_,_,_,rfl,rfl,HVR.out.1,HVR.out.2⟩
  ·go_simp
   go_wp2_with fail
   have h0:=hH
   refine hK.out _ _ (belA hH (o:=zT.o)) (fun hHeld2=>?_)
   clear hK K hH
   have hH:=hHeld2
   clear hHeld2
   try simp only [Act.put,List.setIfInBounds_toArray,pb,pc]
   refine aR1 5 rfl (fun K hK=>?_)
   go_simp
   refine (HT.out.t27 (V0.alloc zT.o) (some ⟨go,0,none⟩) co (jB HB3.out hH) ((HRO.out.below hH).int HI.out.rng)).mono ?_
   rintro e w9 ⟨⟨fk,fm,fr,fs,fa,fn,fc⟩,rfl,hN⟩
   have HVR:=jH (vr_a h0 hN)
   have HZ:Hid (At w9 V0.heap.size zT.o):=jH ((At.new V0 zT.o).below hN.bel)
   have hB9:=jB hH hN.bel
   clear hN h0
   go_wp2_with fail
   refine hK.out _ _ hB9 (fun hHeld2=>?_)
   clear hK K hH hB9
   have hH:=hHeld2
   clear hHeld2
   try simp only [Act.put,List.setIfInBounds_toArray,pb,pc]
   refine tz 6 30 _ hq rfl rfl hH ?_
   simp only [pb,pc]
   refine tz 7 37 (tyV fk fm fr fs fa fn fc) hq rfl rfl hH ?_
   simp only [pb,pc]
   refine tz 8 38 (.int .i64 no) hq rfl rfl hH ?_
   simp only [pb,pc]
   refine aRd [10] ?_
   refine AllReadyH.cons (o:={ dst:=none,op:=.store 46 (.tmp 6) (.tmp 37),type:=0,pos := "law.go:178",after:=_,guard:=none }) rfl (fun K hK=>?_) AllReadyH.nil
   rw [if_pos (by rfl)]
   refine wp_store_mid 46 (.tmp 6) (.tmp 37) rfl V0.heap.size 0 (t5 ⟨fk,fm,fr,fs,fa,fn,fc⟩).toArray rfl rfl (there5 HZ.out) size46 (all_oneCell_toArray (t5_ones _)) ?_
   refine hK.out _ _ HVR.out.2 (fun hH=>?_)
   clear hK K
   try simp only [Act.put,List.setIfInBounds_toArray,pb,pc]
   refine tz 11 7 (.int .i64 no) hq rfl rfl hH ?_
   simp only [pb,pc]
   refine wpAnyH_done (by kernel_rfl) ?_ _
   clear hH hq
   go_wp2_with fail
   go_meet
   exact ⟨_,_,_,_,rfl,rfl,HVR.out.1,HVR.out.2⟩
 case rest =>
  obtain ⟨b6,⟨ak,am,ar,ax,aa,an,ac⟩,loA,hiA,rfl,rfl,hVA,hBA⟩:=hcut
  obtain ⟨V4,rfl⟩:∃ V4,V4=wc:=⟨_,rfl⟩
  have HVA:=jH hVA
  have HA4:=jH (HA2.out.below hBA)
  have HR4:=jH (HRO.out.below hBA)
  have HB4:=jH (jB HB3.out hBA)
  have HLA:Hid (w.heap.size<loA∧w.heap.size<b6∧go<w3.heap.size∧w3.heap.size≤loA∧w3.heap.size≤b6):=jH ⟨by have:=hVA.l0;omega,by have:=hVA.b0;omega,hgw,hVA.l0,hVA.b0⟩
  clear hVA hBA HA2 HRO HB3
  go_upto_region 5 with fail
  go_cut [8,9] (fun v u W=>∃ b f9 lo hi,v=.pointer (some ⟨b,0,none⟩)∧u=.int .i64 no∧Vr V4 W b f9 C lo hi∧Below V4.heap.size V4 W)
  case first =>
   refine beginH (S:=fun W=>Below V4.heap.size V4 W) (fun _ _ _ _ _ h=>h) (by kernel_rfl) bR.drew (fun hq hH=>?_)
   refine tq 0 40 (tyV k m r s a n cap) hq rfl rfl (fun W hSw=>by (obtain ⟨-,p0,p1,p2,p3,p4⟩:=(HA4.out.below hSw).ty;simp only [Nat.zero_add] at p0 p1 p2 p3 p4;go_simp;try rfl)) hH ?_
   simp only [pb,pc]
   refine tz 1 41 (.slice (some ⟨go,0,none⟩) (xn+1) co) hq rfl rfl hH ?_
   simp only [pb,pc]
   refine tz 2 42 (.slice xa xn xcap) hq rfl rfl hH ?_
   simp only [pb,pc]
   refine tz 3 43 (.int .i64 (xn:Int)) hq rfl rfl hH ?_
   simp only [pb,pc]
   refine tq 4 44 (.slice (some ⟨go,0,none⟩) xn co) hq rfl rfl (fun W hSw=>by (go_simp;try first|rfl|(intro hh;exfalso;omega))) hH ?_
   simp only [pb,pc]
   generalize V4.drew=V0 at hH ⊢
   refine aRd [5,9] ?_
   refine AllReadyH.cons rfl (fun K hK=>?_) (AllReadyH.cons rfl (fun K hK=>?_) AllReadyH.nil)
   ·go_simp
    have h0:=hH
    refine (HT.out.t27 V0 (some ⟨go,0,none⟩) co (jB HB4.out hH) ((HR4.out.below hH).int HI.out.rng)).mono ?_
    rintro e w9 ⟨⟨fk,fm,fr,fs,fa,fn,fc⟩,rfl,hN⟩
    have HVR:=jH (vr_b h0 hN)
    have HZ:Hid (At (w9.alloc zT.o) w9.heap.size zT.o):=jH (At.new _ _)
    have hB9:=jB h0 hN.bel
    clear hN h0
    go_wp2_with fail
    refine hK.out _ _ hB9 (fun hHeld2=>?_)
    clear hK K hH hB9
    have hH:=hHeld2
    clear hHeld2
    try simp only [Act.put,List.setIfInBounds_toArray,pb,pc]
    refine tz 6 39 _ hq rfl rfl hH ?_
    simp only [pb,pc]
    refine tz 7 46 (tyV fk fm fr fs fa fn fc) hq rfl rfl hH ?_
    simp only [pb,pc]
    refine tz 8 47 (.int .i64 no) hq rfl rfl hH ?_
    simp only [pb,pc]
    refine aR1 9 rfl (fun K hK=>?_)
    go_simp
    go_wp2_with fail
    refine hK.out _ _ (belA hH (o:=zT.o)) (fun hHeld2=>?_)
    clear hK K hH
    have hH:=hHeld2
    clear hHeld2
    try simp only [Act.put,List.setIfInBounds_toArray,pb,pc]
    refine aRd [10] ?_
    refine AllReadyH.cons (o:={ dst:=none,op:=.store 46 (.tmp 8) (.tmp 46),type:=0,pos := "law.go:179",after:=_,guard:=none }) rfl (fun K hK=>?_) AllReadyH.nil
    rw [if_pos (by rfl)]
    refine wp_store_mid 46 (.tmp 8) (.tmp 46) rfl w9.heap.size 0 (t5 ⟨fk,fm,fr,fs,fa,fn,fc⟩).toArray rfl rfl (there5 HZ.out) size46 (all_oneCell_toArray (t5_ones _)) ?_
    refine hK.out _ _ HVR.out.2 (fun hH=>?_)
    clear hK K
    try simp only [Act.put,List.setIfInBounds_toArray,pb,pc]
    refine tz 11 9 (.int .i64 no) hq rfl rfl hH ?_
    simp only [pb,pc]
    refine wpAnyH_done (by kernel_rfl) ?_ _
    clear hH hq
    go_wp2_with fail
    go_meet
    exact ⟨_,_,_,_,rfl,rfl,HVR.out.1,HVR.out.2⟩
   ·go_simp
    go_wp2_with fail
    have h0:=hH
    refine hK.out _ _ (belA hH (o:=zT.o)) (fun hHeld2=>?_)
    clear hK K hH
    have hH:=hHeld2
    clear hHeld2
    try simp only [Act.put,List.setIfInBounds_toArray,pb,pc]
    refine aR1 5 rfl (fun K hK=>?_)
    go_simp
    refine (HT.out.t27 (V0.alloc zT.o) (some ⟨go,0,none⟩) co (jB HB4.out hH) ((HR4.out.below hH).int HI.out.rng)).mono ?_
    rintro e w9 ⟨⟨fk,fm,fr,fs,fa,fn,fc⟩,rfl,hN⟩
    have HVR:=jH (vr_a h0 hN)
    have HZ:Hid (At w9 V0.heap.size zT.o):=jH ((At.new V0 zT.o).below hN.bel)
    have hB9:=jB hH hN.bel
    clear hN h0
    go_wp2_with fail
    refine hK.out _ _ hB9 (fun hHeld2=>?_)
    clear hK K hH hB9
    have hH:=hHeld2
    clear hHeld2
    try simp only [Act.put,List.setIfInBounds_toArray,pb,pc]
    refine tz 6 39 _ hq rfl rfl hH ?_
    simp only [pb,pc]
    refine tz 7 46 (tyV fk fm fr fs fa fn fc) hq rfl rfl hH ?_
    simp only [pb,pc]
    refine tz 8 47 (.int .i64 no) hq rfl rfl hH ?_
    simp only [pb,pc]
    refine aRd [10] ?_
    refine AllReadyH.cons (o:={ dst:=none,op:=.store 46 (.tmp 8) (.tmp 46),type:=0,pos := "law.go:179",after:=_,guard:=none }) rfl (fun K hK=>?_) AllReadyH.nil
    rw [if_pos (by rfl)]
    refine wp_store_mid 46 (.tmp 8) (.tmp 46) rfl V0.heap.size 0 (t5 ⟨fk,fm,fr,fs,fa,fn,fc⟩).toArray rfl rfl (there5 HZ.out) size46 (all_oneCell_toArray (t5_ones _)) ?_
    refine hK.out _ _ HVR.out.2 (fun hH=>?_)
    clear hK K
    try simp only [Act.put,List.setIfInBounds_toArray,pb,pc]
    refine tz 11 9 (.int .i64 no) hq rfl rfl hH ?_
    simp only [pb,pc]
    refine wpAnyH_done (by kernel_rfl) ?_ _
    clear hH hq
    go_wp2_with fail
    go_meet
    exact ⟨_,_,_,_,rfl,rfl,HVR.out.1,HVR.out.2⟩
  case rest =>
   obtain ⟨b8,⟨bk,bm,br,bs,ba,bn,bc⟩,loB,hiB,rfl,rfl,hVB,hBB⟩:=hcut
   obtain ⟨V5,rfl⟩:∃ V5,V5=wc:=⟨_,rfl⟩
   have HVB:=jH hVB
   have HVA5:=jH (HVA.out.bel hBB)
   have HA5:=jH (HA4.out.below hBB)
   have HR5:=jH (HR4.out.below hBB)
   have HB5:=jH (jB HB4.out hBB)
   have HLB:Hid (hiA≤loB∧hiA≤b8∧b6<loB∧b6<b8∧go<loB∧go<b8):=jH (by
    have k1:=hVB.l0
    have k2:=hVB.b0
    have k3:=HVA.out.h1
    have k4:=HVA.out.at_.lt
    have k5:=HR4.out.lt
    omega)
   clear hVB hBB HA4 HR4 HB4 HVA
   obtain ⟨hl2,p0,p1,p2,p3,p4⟩:=HA5.out.ty
   simp only [Nat.zero_add] at p0 p1 p2 p3 p4
   go_upto_region 7 with (go_at_call 28;refine (HT.out.t28 V5 HB5.out).mono ?_;rintro e w6 ⟨⟨ck,cm,cr,cs,ca,cn,cc⟩,rfl,hN⟩;have HN:=jH hN;clear hN p0 p1 p2 p3 p4 hl2)
   have hb6:Below V5.heap.size V5 (w6.alloc (tyO ck cm cr cs ca cn cc)):=belA HN.out.bel
   have HVB6:=jH (HVB.out.bel hb6)
   have HVA6:=jH (HVA5.out.bel hb6)
   have HA6:=jH (HA5.out.below hb6)
   have HR6:=jH (HR5.out.below hb6)
   have HB6:=jH (jB HB5.out hb6)
   have HC6:Hid (At (w6.alloc (tyO ck cm cr cs ca cn cc)) w6.heap.size (Fv.o ⟨ck,cm,cr,cs,ca,cn,cc⟩)):=jH (At.new _ _)
   have HO6:Hid (OwnL (w6.alloc (tyO ck cm cr cs ca cn cc)) V5.heap.size w6.heap.size ⟨ck,cm,cr,cs,ca,cn,cc⟩ C):=jH (HN.out.own.bel (belA bR))
   have HLC:Hid (hiB≤V5.heap.size∧b8<V5.heap.size∧V5.heap.size≤w6.heap.size):=jH ⟨HVB.out.h1,HVB.out.at_.lt,HN.out.bel.size⟩
   change Code.wp _ _ _ _ (w6.alloc (tyO ck cm cr cs ca cn cc))
   obtain ⟨b10,hb10⟩:∃ b10,b10=w6.heap.size:=⟨_,rfl⟩
   rw [← hb10] at HC6 HO6 HLC ⊢
   generalize (w6.alloc (tyO ck cm cr cs ca cn cc))=V6 at HVB6 HVA6 HA6 HR6 HB6 HC6 HO6 ⊢
   clear HN hb6 HVB HVA5 HA5 HR5 HB5 hb10
   have CS:=jH (equal_same C ⟨ak,am,ar,ax,aa,an,ac⟩ ⟨ck,cm,cr,cs,ca,cn,cc⟩ V6 (HVA6.out.own.ty HT.out.rgC) (HO6.out.ty HT.out.rgC))
   obtain ⟨hlA,p0,p1,p2,p3,p4⟩:=HVA6.out.at_.ty
   obtain ⟨hlC,q0,q1,q2,q3,q4⟩:=HC6.out.ty
   simp only [Nat.zero_add] at p0 p1 p2 p3 p4 q0 q1 q2 q3 q4
   have hnn:(no == no)=true:=by simp
   have CSP:Hid (∀ W,Below V6.heap.size V6 W→Calls Tryz.prog 15 #[tyV ak am ar ax aa an ac] W fun e w'=>e=.returned (.tuple #[])∧Out loA hiA W w'):=jH fun W hW=>spoil_any C ⟨ak,am,ar,ax,aa,an,ac⟩ W loA hiA (HVA6.out.own.bel hW) HVA6.out.le (Nat.le_trans HVA6.out.h1 hW.size)
   go_upto_region 10 with (first
    | (go_at_call 20;refine CS.out.mono ?_;rintro e w7 ⟨rfl,hb7⟩;have HB7:=jH hb7;clear p0 p1 p2 p3 p4 q0 q1 q2 q3 q4 hlA hlC;obtain ⟨hlA,p0,p1,p2,p3,p4⟩:=(HVA6.out.at_.below hb7).ty;simp only [Nat.zero_add] at p0 p1 p2 p3 p4;clear hb7)
    | (go_at_call 15;refine (CSP.out w7 HB7.out).mono ?_;rintro e w8 ⟨rfl,hout⟩;have HO8:=jH hout;clear hout p0 p1 p2 p3 p4 hlA))
   have l1:=HLA.out
   have l2:=HLB.out
   have l3:=HLC.out
   have l4:=HVB6.out.le
   have l5:=HVA6.out.le
   have KA:=jH (HO8.out.at (HA6.out.below HB7.out) (.inl l1.1))
   have KR:=jH ((HR6.out.below HB7.out).out HO8.out (.inl (by omega)))
   have KBo:=jH ((HVB6.out.own.bel HB7.out).out HO8.out (.inr l2.1))
   have KBa:=jH (HO8.out.at (HVB6.out.at_.below HB7.out) (.inr l2.2.1))
   have KCo:=jH ((HO6.out.bel HB7.out).out HO8.out (.inr (by omega)))
   have KCa:=jH (HO8.out.at (HC6.out.below HB7.out) (.inr (by omega)))
   have KB:=jH ((jB HB6.out HB7.out).trans (HO8.out.bel.mono (by omega)))
   clear HO8 HB7 HVA6 HVB6 HA6 HR6 HB6 HC6 HO6 CS CSP l1 l2 l3 l4 l5 hnn
   go_wp2_with fail
   go_loopw [12] (fun v W=>∃ i:Nat,i≤xn∧v=.int .i64 (i:Int)∧Below w8.heap.size w8 W) (fun v _=>xn - (intOf v).toNat)
   case atStart=>exact ⟨0,Nat.zero_le _,rfl,Below.refl _ _⟩
   case round =>
    obtain ⟨i,hi,rfl,hW⟩:=hrel
    have HW:=jH hW
    clear hW
    by_cases hlt:i<xn
    ·obtain ⟨x,hx⟩:∃ x,X[i]?=some x:=⟨_,List.getElem?_eq_getElem (by have:=HI.out.len;omega)⟩
     obtain ⟨xg,xo,exa,hxg,hxc⟩:=HI.out.cells (fun e=>by subst e;simp at hx)
     have exa2:xa=some ⟨xg,xo,none⟩:=exa
     subst exa2
     have kr:=KR.out.below HW.out
     have c1:wr.cell? ⟨go,i,none⟩=some (.int .i64 x):=by
      rw [kr.cells i (by omega)]
      exact iC_at (L:=X++[77]) (by rw [List.getElem?_append_left (List.getElem?_eq_some_iff.1 hx).1];exact hx)
     have hbw:=jB KB.out HW.out
     have c2:wr.cell? ⟨xg,xo+i,none⟩=some (.int .i64 x):=(hbw.cell (p:=⟨xg,xo+i,none⟩) hxg).trans (hxc i x hx)
     have g1:=kr.lt
     have g2:xg<wr.heap.size:=Nat.lt_of_lt_of_le hxg hbw.size
     have i1:(0:Int)≤(i:Int):=by omega
     have i2:(i:Int)<(xn:Int):=by omega
     have i3:(i:Int)<(xn:Int)+1:=by omega
     have i4:(i:Int)≤600:=by omega
     have hxx:(x == x)=true:=by simp
     clear kr hbw hxc hx exa hxg
     go_upto_region 13 with fail
     go_quiet (fail)
     go_wp2_with fail
     exact ⟨⟨i+1,hlt,rfl,belN HW.out _⟩,by show xn - ((i:Int)+1).toNat<xn - (i:Int).toNat;omega⟩
    ·have ei:i=xn:=by omega
     have z1:¬ (i:Int)<(xn:Int):=by omega
     clear ei hlt
     have KAn:=jH (KA.out.below HW.out)
     have KRn:=jH (KR.out.below HW.out)
     have KBon:=jH (KBo.out.bel HW.out)
     have KBan:=jH (KBa.out.below HW.out)
     have KCon:=jH (KCo.out.bel HW.out)
     have KCan:=jH (KCa.out.below HW.out)
     have KBn:=jH (jB KB.out HW.out)
     clear HW
     clear KA KR KBo KBa KCo KCa KB
     have KA:=KAn
     clear KAn
     have KR:=KRn
     clear KRn
     have KBo:=KBon
     clear KBon
     have KBa:=KBan
     clear KBan
     have KCo:=KCon
     clear KCon
     have KCa:=KCan
     clear KCan
     have KB:=KBn
     clear KBn
     obtain ⟨V8,rfl⟩:∃ V8,V8=wr:=⟨_,rfl⟩
     have HLO:Hid (w.heap.size<V8.heap.size∧hiB≤V8.heap.size∧b8<V8.heap.size∧b10<V8.heap.size∧go<V8.heap.size):=jH ⟨by have:=KA.out.lt;omega,by have:=HLC.out;have:=KCa.out.lt;omega,KBa.out.lt,KCa.out.lt,KR.out.lt⟩
     obtain ⟨er,her⟩:∃ er:Int,er=if is then 0 else 2:=⟨_,rfl⟩
     have CE:Hid (∀ W,Below w.heap.size w W→Calls Tryz.prog 29 #[tyV k m r s a n cap] W fun e w'=>∃ f':Fv,e=.returned (.tuple #[f'.v,.int .i64 er])∧New W w' f' E):=jH fun W hW=>by rw [her];exact HT.out.t29 W hW
     have HER:=jH her
     clear her
     obtain ⟨hl2,p0,p1,p2,p3,p4⟩:=KA.out.ty
     simp only [Nat.zero_add] at p0 p1 p2 p3 p4
     go_upto_region 16 with (go_at_call 29;refine (CE.out V8 KB.out).mono ?_;rintro e w9 ⟨⟨dk,dm,dr,ds,da,dn,dc⟩,rfl,hN⟩;have HN:=jH hN;clear hN p0 p1 p2 p3 p4 hl2)
     have hbx:Below V8.heap.size V8 (w9.alloc (tyO dk dm dr ds da dn dc)):=belA HN.out.bel
     have KAn:=jH (KA.out.below hbx)
     have KRn:=jH (KR.out.below hbx)
     have KBon:=jH (KBo.out.bel hbx)
     have KBan:=jH (KBa.out.below hbx)
     have KCon:=jH (KCo.out.bel hbx)
     have KCan:=jH (KCa.out.below hbx)
     have KBn:=jH (jB KB.out hbx)
     have KDa:Hid (At (w9.alloc (tyO dk dm dr ds da dn dc)) w9.heap.size (Fv.o ⟨dk,dm,dr,ds,da,dn,dc⟩)):=jH (At.new _ _)
     have KDo:Hid (OwnL (w9.alloc (tyO dk dm dr ds da dn dc)) V8.heap.size w9.heap.size ⟨dk,dm,dr,ds,da,dn,dc⟩ E):=jH (HN.out.own.bel (belA bR))
     have S_b13:Hid (V8.heap.size≤w9.heap.size):=jH HN.out.bel.size
     change Code.wp _ _ _ _ (w9.alloc (tyO dk dm dr ds da dn dc))
     obtain ⟨b13,hb13⟩:∃ b13,b13=w9.heap.size:=⟨_,rfl⟩
     rw [← hb13] at KDa KDo S_b13 ⊢
     generalize (w9.alloc (tyO dk dm dr ds da dn dc))=V9 at KAn KRn KBon KBan KCon KCan KBn KDa KDo ⊢
     clear HN hbx hb13
     clear KA KR KBo KBa KCo KCa KB
     have KA:=KAn
     clear KAn
     have KR:=KRn
     clear KRn
     have KBo:=KBon
     clear KBon
     have KBa:=KBan
     clear KBan
     have KCo:=KCon
     clear KCon
     have KCa:=KCan
     clear KCan
     have KB:=KBn
     clear KBn
     have HS13v:Hid (b13<V9.heap.size):=jH KDa.out.lt
     obtain ⟨hl2,p0,p1,p2,p3,p4⟩:=KA.out.ty
     simp only [Nat.zero_add] at p0 p1 p2 p3 p4
     go_upto_region 17 with (go_at_call 29;refine (CE.out V9 KB.out).mono ?_;rintro e w10 ⟨⟨ek,em,e2,es,ea,en,ec⟩,rfl,hN⟩;have HN:=jH hN;clear hN p0 p1 p2 p3 p4 hl2)
     have hbx:Below V9.heap.size V9 (w10.alloc (tyO ek em e2 es ea en ec)):=belA HN.out.bel
     have KAn:=jH (KA.out.below hbx)
     have KRn:=jH (KR.out.below hbx)
     have KBon:=jH (KBo.out.bel hbx)
     have KBan:=jH (KBa.out.below hbx)
     have KCon:=jH (KCo.out.bel hbx)
     have KCan:=jH (KCa.out.below hbx)
     have KBn:=jH (jB KB.out hbx)
     have KDon:=jH (KDo.out.bel hbx)
     have KDan:=jH (KDa.out.below hbx)
     have KEa:Hid (At (w10.alloc (tyO ek em e2 es ea en ec)) w10.heap.size (Fv.o ⟨ek,em,e2,es,ea,en,ec⟩)):=jH (At.new _ _)
     have KEo:Hid (OwnL (w10.alloc (tyO ek em e2 es ea en ec)) V9.heap.size w10.heap.size ⟨ek,em,e2,es,ea,en,ec⟩ E):=jH (HN.out.own.bel (belA bR))
     have S_b14:Hid (V9.heap.size≤w10.heap.size):=jH HN.out.bel.size
     change Code.wp _ _ _ _ (w10.alloc (tyO ek em e2 es ea en ec))
     obtain ⟨b14,hb14⟩:∃ b14,b14=w10.heap.size:=⟨_,rfl⟩
     rw [← hb14] at KEa KEo S_b14 ⊢
     generalize (w10.alloc (tyO ek em e2 es ea en ec))=V10 at KAn KRn KBon KBan KCon KCan KBn KDon KDan KEa KEo ⊢
     clear HN hbx hb14
     clear KA KR KBo KBa KCo KCa KB KDo KDa
     have KA:=KAn
     clear KAn
     have KR:=KRn
     clear KRn
     have KBo:=KBon
     clear KBon
     have KBa:=KBan
     clear KBan
     have KCo:=KCon
     clear KCon
     have KCa:=KCan
     clear KCan
     have KB:=KBn
     clear KBn
     have KDo:=KDon
     clear KDon
     have KDa:=KDan
     clear KDan
     have HS13:Hid (b13<V9.heap.size):=HS13v
     have CI:=jH (HT.out.t30 V10 KB.out)
     obtain ⟨hl2,p0,p1,p2,p3,p4⟩:=KA.out.ty
     simp only [Nat.zero_add] at p0 p1 p2 p3 p4
     cases is with
     | false =>
      have her2:er=2:=HER.out
      have hE:E=.leaf 0 0:=HT.out.zero rfl
      subst her2
      subst hE
      have CS2:Hid (∀ W,Below V10.heap.size V10 W→Calls Tryz.prog 20 #[tyV dk dm dr ds da dn dc,zT.v] W fun e w'=>e=.returned (.bool true)∧Below W.heap.size W w'):=jH fun W hW=>equal_same (.leaf 0 0) ⟨dk,dm,dr,ds,da,dn,dc⟩ zT W ((KDo.out.bel hW).ty zero_rg) (TyAt.mkLeaf 0 0 (by omega) (by omega) (by omega) none 0)
      go_wp2_with (first
       | (go_at_call 30;refine CI.out.mono ?_;rintro e w11 ⟨rfl,hb⟩;have HB11:=jH hb;clear p0 p1 p2 p3 p4 hl2;obtain ⟨hl13,p0,p1,p2,p3,p4⟩:=(KDa.out.below hb).ty;simp only [Nat.zero_add] at p0 p1 p2 p3 p4;clear hb)
       | (go_at_call 20;refine (CS2.out w11 HB11.out).mono ?_;rintro e w12 ⟨rfl,hb⟩;have HB12:=jH (jB HB11.out hb);clear hb p0 p1 p2 p3 p4 hl13)
       | (go_at_call 9;refine (CA.out w12).mono ?_;rintro e w13 ⟨rfl,hb⟩;have HB13:=jH (jB HB12.out hb);clear hb))
      go_ret
      exact ⟨rfl,jB KB.out HB13.out⟩
     | true =>
      have her2:er=0:=HER.out
      subst her2
      have CRE:Hid (∀ W,Below w.heap.size w W→Calls Tryz.prog 31 #[tyV k m r s a n cap] W fun e w'=>∃ f':Fv,e=.returned f'.v∧New W w' f' E):=jH (HT.out.t31 rfl)
      go_upto_region 20 with (first
       | (go_at_call 30;refine CI.out.mono ?_;rintro e w11 ⟨rfl,hb⟩;have HB11:=jH hb;clear p0 p1 p2 p3 p4 hl2;obtain ⟨hl2,p0,p1,p2,p3,p4⟩:=(KA.out.below hb).ty;simp only [Nat.zero_add] at p0 p1 p2 p3 p4;clear hb)
       | (go_at_call 31;refine (CRE.out w11 (jB KB.out HB11.out)).mono ?_;rintro e w12 ⟨⟨gk,gm,gr,gx,ga,gn,gc⟩,rfl,hN⟩;have HN:=jH hN;clear hN p0 p1 p2 p3 p4 hl2))
      have hbx:Below V10.heap.size V10 (w12.alloc (tyO gk gm gr gx ga gn gc)):=belA (jB HB11.out HN.out.bel)
      have KAn:=jH (KA.out.below hbx)
      have KRn:=jH (KR.out.below hbx)
      have KBon:=jH (KBo.out.bel hbx)
      have KBan:=jH (KBa.out.below hbx)
      have KCon:=jH (KCo.out.bel hbx)
      have KCan:=jH (KCa.out.below hbx)
      have KBn:=jH (jB KB.out hbx)
      have KDon:=jH (KDo.out.bel hbx)
      have KDan:=jH (KDa.out.below hbx)
      have KEon:=jH (KEo.out.bel hbx)
      have KEan:=jH (KEa.out.below hbx)
      have KGa:Hid (At (w12.alloc (tyO gk gm gr gx ga gn gc)) w12.heap.size (Fv.o ⟨gk,gm,gr,gx,ga,gn,gc⟩)):=jH (At.new _ _)
      have KGo:Hid (OwnL (w12.alloc (tyO gk gm gr gx ga gn gc)) w11.heap.size w12.heap.size ⟨gk,gm,gr,gx,ga,gn,gc⟩ E):=jH (HN.out.own.bel (belA bR))
      have HSG:Hid (V10.heap.size≤w11.heap.size∧w11.heap.size≤w12.heap.size):=jH ⟨HB11.out.size,HN.out.bel.size⟩
      have HS14:Hid (b14<V10.heap.size):=jH KEa.out.lt
      change Code.wp _ _ _ _ (w12.alloc (tyO gk gm gr gx ga gn gc))
      obtain ⟨b16,hb16⟩:∃ b16,b16=w12.heap.size:=⟨_,rfl⟩
      rw [← hb16] at KGa KGo HSG ⊢
      generalize (w12.alloc (tyO gk gm gr gx ga gn gc))=V12 at KAn KRn KBon KBan KCon KCan KBn KDon KDan KEon KEan KGa KGo ⊢
      clear HN hbx hb16 HB11 CI CRE
      clear KA KR KBo KBa KCo KCa KB KDo KDa KEo KEa
      have KA:=KAn
      clear KAn
      have KR:=KRn
      clear KRn
      have KBo:=KBon
      clear KBon
      have KBa:=KBan
      clear KBan
      have KCo:=KCon
      clear KCon
      have KCa:=KCan
      clear KCan
      have KB:=KBn
      clear KBn
      have KDo:=KDon
      clear KDon
      have KDa:=KDan
      clear KDan
      have KEo:=KEon
      clear KEon
      have KEa:=KEan
      clear KEan
      have HTE:Hid E.rg:=jH HT.out.rgE
      have HTC:Hid C.rg:=jH HT.out.rgC
      have CS3:=jH (equal_same E ⟨dk,dm,dr,ds,da,dn,dc⟩ ⟨gk,gm,gr,gx,ga,gn,gc⟩ V12 (KDo.out.ty HTE.out) (KGo.out.ty HTE.out))
      have CSP:Hid (∀ W,Below V12.heap.size V12 W→Calls Tryz.prog 15 #[tyV dk dm dr ds da dn dc] W fun e w'=>e=.returned (.tuple #[])∧Out V8.heap.size b13 W w'):=jH fun W hW=>spoil_any E ⟨dk,dm,dr,ds,da,dn,dc⟩ W V8.heap.size b13 (KDo.out.bel hW) S_b13.out (by have:=KDa.out.lt;have:=hW.size;omega)
      obtain ⟨hlD,p0,p1,p2,p3,p4⟩:=KDa.out.ty
      obtain ⟨hlG,q0,q1,q2,q3,q4⟩:=KGa.out.ty
      simp only [Nat.zero_add] at p0 p1 p2 p3 p4 q0 q1 q2 q3 q4
      go_upto_region 23 with (first
       | (go_at_call 20;refine CS3.out.mono ?_;rintro e w13 ⟨rfl,hb⟩;have HB13:=jH hb;clear p0 p1 p2 p3 p4 q0 q1 q2 q3 q4 hlD hlG;obtain ⟨hlD,p0,p1,p2,p3,p4⟩:=(KDa.out.below hb).ty;simp only [Nat.zero_add] at p0 p1 p2 p3 p4;clear hb)
       | (go_at_call 15;refine (CSP.out w13 HB13.out).mono ?_;rintro e w14 ⟨rfl,hout⟩;have HO:=jH hout;clear hout p0 p1 p2 p3 p4 hlD))
      have l1:=HLO.out
      have l2:=S_b13.out
      have l3:=S_b14.out
      have l4:=HSG.out
      have l6:=HS14.out
      have l7:=HLC.out
      have l8:=KDa.out.lt
      have l9:b13<V9.heap.size:=HS13.out
      have LBo:=jH ((KBo.out.bel HB13.out).out HO.out (.inl l1.2.1))
      have LBa:=jH (HO.out.at (KBa.out.below HB13.out) (.inl l1.2.2.1))
      have LCo:=jH ((KCo.out.bel HB13.out).out HO.out (.inl (Nat.le_of_lt l1.2.2.2.1)))
      have LCa:=jH (HO.out.at (KCa.out.below HB13.out) (.inl l1.2.2.2.1))
      have LEo:=jH ((KEo.out.bel HB13.out).out HO.out (.inr (by omega)))
      have LEa:=jH (HO.out.at (KEa.out.below HB13.out) (.inr (by omega)))
      have LGo:=jH ((KGo.out.bel HB13.out).out HO.out (.inr (by omega)))
      have LGa:=jH (HO.out.at (KGa.out.below HB13.out) (.inr (by omega)))
      have LR:=jH ((KR.out.below HB13.out).out HO.out (.inl l1.2.2.2.2))
      have LB:=jH ((jB KB.out HB13.out).trans (HO.out.bel.mono (by omega)))
      have c77:w14.cell? ⟨go,xn,none⟩=some (.int .i64 77):=by
       rw [LR.out.cells xn (by omega)]
       exact iC_at (L:=X++[77]) (by rw [List.getElem?_append_right (by have:=HI.out.len;omega),show xn - X.length=0 by have:=HI.out.len;omega];rfl)
      have hlr:=LR.out.lt
      clear l1 l2 l3 l4 l6 l7 l8 l9 HO HB13 CS3 CSP KA KR KBo KBa KCo KCa KDo KDa KEo KEa KGo KGa KB
      have CS4:=jH (equal_same C ⟨bk,bm,br,bs,ba,bn,bc⟩ ⟨ck,cm,cr,cs,ca,cn,cc⟩ w14 (LBo.out.ty HTC.out) (LCo.out.ty HTC.out))
      have CS5:Hid (∀ W,Below w14.heap.size w14 W→Calls Tryz.prog 20 #[tyV ek em e2 es ea en ec,tyV gk gm gr gx ga gn gc] W fun e w'=>e=.returned (.bool true)∧Below W.heap.size W w'):=jH fun W hW=>equal_same E ⟨ek,em,e2,es,ea,en,ec⟩ ⟨gk,gm,gr,gx,ga,gn,gc⟩ W ((LEo.out.bel hW).ty HTE.out) ((LGo.out.bel hW).ty HTE.out)
      have i1:(0:Int)≤(xn:Int):=by omega
      have i3:(xn:Int)<(xn:Int)+1:=by omega
      obtain ⟨hlB,p0,p1,p2,p3,p4⟩:=LBa.out.ty
      obtain ⟨hlC,q0,q1,q2,q3,q4⟩:=LCa.out.ty
      simp only [Nat.zero_add] at p0 p1 p2 p3 p4 q0 q1 q2 q3 q4
      have st1:Stg 1:=.mk 1
      go_wp2_with (first
       | (have _s:=st1;clear st1 _s;go_at_call 20;refine CS4.out.mono ?_;rintro e w15 ⟨rfl,hb⟩;have HB15:=jH hb;have st2:Stg 2:=.mk 2;clear p0 p1 p2 p3 p4 q0 q1 q2 q3 q4 hlB hlC c77;obtain ⟨hlB,p0,p1,p2,p3,p4⟩:=(LEa.out.below hb).ty;obtain ⟨hlC,q0,q1,q2,q3,q4⟩:=(LGa.out.below hb).ty;simp only [Nat.zero_add] at p0 p1 p2 p3 p4 q0 q1 q2 q3 q4;clear hb)
       | (have _s:=st2;clear st2 _s;go_at_call 20;refine (CS5.out w15 HB15.out).mono ?_;rintro e w16 ⟨rfl,hb⟩;have HB16:=jH (jB HB15.out hb);clear hb)
       | (go_at_call 9;refine (CA.out w16).mono ?_;rintro e w17 ⟨rfl,hb⟩;have HB17:=jH (jB HB16.out hb);clear hb))
      go_ret
      exact ⟨rfl,jB LB.out HB17.out⟩
end Go.Proofs.YtdlggpcakaofoaaGreat
