import Derived.Test.YtdlggpcakaofoaaGreatB15
namespace Go.Proofs.YtdlggpcakaofoaaGreat
open Go.RowKit Go.Shelf
set_option linter.unusedVariables false
set_option linter.unusedSimpArgs false
set_option maxRecDepth 100000
set_option maxHeartbeats 8000000
def clP (M:Nat→Nat→Bool) (a b c:Nat):Prop:=M a b=true→M b c=true→a≠c→M a c=true
theorem isClosed_any (w:World) (b:Nat) (M:Nat→Nat→Bool) (hM:∀ i j,i<8→j<8→w.cell? ⟨b,i*8+j,none⟩=some (.bool (M i j))) (r:Bool) (hr:r=true↔∀ x y z,x<8→y<8→z<8→clP M x y z) :
  Calls Tryz.prog 137 #[.pointer (some ⟨b,0,none⟩)] w fun e w'=>e=.returned (.bool r)∧w'=w:=by
 have HM:=jH hM
 have HR:=jH hr
 clear hM hr
 go_enter Tryz.func137,Tryz.ntmps137
 go_wp2_with fail
 go_loopw [6] (fun v V=>∃ i:Nat,i≤8∧v=.int .i64 (i:Int)∧(∀ x,x<i→∀ y z,y<8→z<8→clP M x y z)∧V=w) (fun v _=>8 - (intOf v).toNat)
 case atStart=>exact ⟨0,by omega,rfl,fun x hx=>by omega,rfl⟩
 case round =>
  obtain ⟨i,hi,rfl,h1,rfl⟩:=hrel
  have HI1:=jH h1
  clear h1
  by_cases hlt:i<8
  ·have i0:(0:Int)≤(i:Int):=by omega
   have i1:(i:Int)<8:=by omega
   have HI:=jH hlt
   clear hlt hi
   go_wp2_with fail
   go_loopw [9] (fun v V=>∃ j:Nat,j≤8∧v=.int .i64 (j:Int)∧(∀ y,y<j→∀ z,z<8→clP M i y z)∧V=wr) (fun v _=>8 - (intOf v).toNat)
   case atStart=>exact ⟨0,by omega,rfl,fun x hx=>by omega,rfl⟩
   case round =>
    obtain ⟨j,hj,rfl,h2,rfl⟩:=hrel
    have HJ2:=jH h2
    clear h2
    by_cases hlt:j<8
    ·have j0:(0:Int)≤(j:Int):=by omega
     have j1:(j:Int)<8:=by omega
     have HJ:=jH hlt
     clear hlt hj
     go_wp2_with fail
     go_loopw [12] (fun v V=>∃ k:Nat,k≤8∧v=.int .i64 (k:Int)∧(∀ z,z<k→clP M i j z)∧V=wr) (fun v _=>8 - (intOf v).toNat)
     case atStart=>exact ⟨0,by omega,rfl,fun x hx=>by omega,rfl⟩
     case round =>
      obtain ⟨k,hk,rfl,h3,rfl⟩:=hrel
      have HK3:=jH h3
      clear h3
      by_cases hlt:k<8
      ·have k0:(0:Int)≤(k:Int):=by omega
       have k1:(k:Int)<8:=by omega
       have HK:=jH hlt
       have c1:=HM.out i j HI.out HJ.out
       have c2:=HM.out j k HJ.out HK.out
       have c3:=HM.out i k HI.out HK.out
       obtain ⟨x,hx⟩:∃ x,x=M i j:=⟨_,rfl⟩
       obtain ⟨y,hy⟩:∃ y,y=M j k:=⟨_,rfl⟩
       obtain ⟨u,hu⟩:∃ u,u=M i k:=⟨_,rfl⟩
       rw [← hx] at c1
       rw [← hy] at c2
       rw [← hu] at c3
       clear hlt hk
       cases x with
       | false =>
        have HPk:Hid (clP M i j k):=jH (fun e _ _=>by rw [← hx] at e;cases e)
        clear hx hy hu c2 c3
        go_wp2_with fail
        refine ⟨⟨k+1,HK.out,rfl,fun c hc=>?_,trivial⟩,?_⟩
        ·rcases Nat.lt_or_ge c k with h1|h1
         ·exact HK3.out c h1
         ·obtain rfl:c=k:=by omega
          exact HPk.out
        ·show 8 - ((k:Int)+1).toNat<8 - (k:Int).toNat
         have:=HK.out
         omega
       | true =>
        cases y with
        | false =>
         have HPk:Hid (clP M i j k):=jH (fun _ e _=>by rw [← hy] at e;cases e)
         clear hx hy hu c3
         go_wp2_with fail
         refine ⟨⟨k+1,HK.out,rfl,fun c hc=>?_,trivial⟩,?_⟩
         ·rcases Nat.lt_or_ge c k with h1|h1
          ·exact HK3.out c h1
          ·obtain rfl:c=k:=by omega
           exact HPk.out
         ·show 8 - ((k:Int)+1).toNat<8 - (k:Int).toNat
          have:=HK.out
          omega
        | true =>
         by_cases hik:i=k
         ·have HPk:Hid (clP M i j k):=jH (fun _ _ e=>absurd hik e)
          have e1:((i:Int) == (k:Int))=true:=by rw [hik];simp
          have e2:((i:Int) != (k:Int))=false:=by rw [hik];simp
          clear hx hy hu c3 hik
          go_wp2_with fail
          refine ⟨⟨k+1,HK.out,rfl,fun c hc=>?_,trivial⟩,?_⟩
          ·rcases Nat.lt_or_ge c k with h1|h1
           ·exact HK3.out c h1
           ·obtain rfl:c=k:=by omega
            exact HPk.out
          ·show 8 - ((k:Int)+1).toNat<8 - (k:Int).toNat
           have:=HK.out
           omega
         ·have e1:((i:Int) == (k:Int))=false:=by simp;omega
          have e2:((i:Int) != (k:Int))=true:=by simp;omega
          have e3:¬ (i:Int)=(k:Int):=by omega
          cases u with
          | true =>
           have HPk:Hid (clP M i j k):=jH (fun _ _ _=>hu.symm)
           clear hx hy hu hik
           go_wp2_with fail
           refine ⟨⟨k+1,HK.out,rfl,fun c hc=>?_,trivial⟩,?_⟩
           ·rcases Nat.lt_or_ge c k with h1|h1
            ·exact HK3.out c h1
            ·obtain rfl:c=k:=by omega
             exact HPk.out
           ·show 8 - ((k:Int)+1).toNat<8 - (k:Int).toNat
            have:=HK.out
            omega
          | false =>
           have hno:r=false:=by
            cases hrr:r with
            | false=>rfl
            | true =>
             have:=HR.out.1 hrr i j k HI.out HJ.out HK.out hx.symm hy.symm hik
             rw [← hu] at this
             cases this
           clear hx hy hu hik
           go_wp2_with fail
           go_ret
           refine ⟨?_,rfl⟩
           rw [hno]
           rfl
      ·obtain rfl:k=8:=by omega
       clear hlt hk
       rw [show ((8:Nat):Int)=8 from rfl]
       go_wp2_with fail
       refine ⟨⟨j+1,HJ.out,rfl,fun y hy z hz=>?_,trivial⟩,?_⟩
       ·rcases Nat.lt_or_ge y j with h1|h1
        ·exact HJ2.out y h1 z hz
        ·obtain rfl:y=j:=by omega
         exact HK3.out z hz
       ·show 8 - ((j:Int)+1).toNat<8 - (j:Int).toNat
        have:=HJ.out
        omega
    ·obtain rfl:j=8:=by omega
     clear hlt hj
     rw [show ((8:Nat):Int)=8 from rfl]
     go_wp2_with fail
     refine ⟨⟨i+1,HI.out,rfl,fun x hx y z hy hz=>?_,trivial⟩,?_⟩
     ·rcases Nat.lt_or_ge x i with h1|h1
      ·exact HI1.out x h1 y z hy hz
      ·obtain rfl:x=i:=by omega
       exact HJ2.out y hy z hz
     ·show 8 - ((i:Int)+1).toNat<8 - (i:Int).toNat
      have:=HI.out
      omega
  ·obtain rfl:i=8:=by omega
   clear hlt hi
   rw [show ((8:Nat):Int)=8 from rfl]
   go_wp2_with fail
   go_ret
   refine ⟨?_,rfl⟩
   have:r=true:=HR.out.2 (fun x y z hx hy hz=>HI1.out x hx y z hy hz)
   rw [this]
   rfl
theorem tellR (w0:World) (b:Nat):Tell 61 b w0 (JR w0 b) where
 enters:=fun args W=>by kernel_rfl
 alloc:=fun l W o ⟨v,h1,h2,h3,h4⟩=>⟨v,h1.alloc o,h2.alloc o,h3.alloc h3.size o,h4⟩
 bel:=fun l W ⟨v,h1,h2,h3,h4⟩=>h3
 call:=by
  rintro l r W hl r0 r1 ⟨v,hA,hown,hB,hb⟩
  obtain ⟨c0,f0⟩:=hA.one
  obtain ⟨i0,hi,hz0,hz1,hz2⟩:=info_parts Tryz.info3
  have hlt:=hA.lt
  have news:∀ j u,([Value.int .i64 r]:List Value)[j]?=some u→(W.alloc (.cells #[.int .i64 r] 3)).cell? ((⟨W.heap.size,0,none⟩:Addr).add j)=some u:=fun j u hu=>by
   cases j with
   | zero=>simp at hu;subst hu;simp [Addr.add,cell_of_one (At.new W (One (.int .i64 r) 3))]
   | succ j=>simp at hu
  have ones:∀ u∈([Value.int .i64 r]:List Value),u.oneCell'=true:=fun u hu=>by simp at hu;subst hu;rfl
  have FIN:Hid (∀ v' w2,w2.ownsRow w0.heap.size 3 1 v' (l.length+1) (iCells l++[.int .i64 r])→(W.alloc (.cells #[.int .i64 r] 3)).grownBy w2 v.ownBlock→At w2 b (One v 33)∧(JR w0 b (l++[r]) (w2.setCell ⟨b,0,none⟩ v')∧KeepT W (w2.setCell ⟨b,0,none⟩ v'))):=fun v' w2 h1 h2=>by
   have hA2:At w2 b (One v 33):=(hA.alloc _).grown h2 (own_ne hown hA (by decide))
   refine ⟨hA2,⟨v',hA2.setOne v',?_,(((hB.alloc hB.size _).grown h2 (by simp only [World.size_alloc];have:=hB.size;omega) (fun k hk=>(hown.lt k hk).1)).setCell hb v'),hb⟩,?_⟩
   ·have:=own_set h1 hA2 (by decide) v'
    simpa [iCells] using this
   ·exact ((keepT_alloc W _).trans (keepT_grown (hown.alloc _) h2 (by decide))).trans (keepT_set hA2 v')
  have HO:Hid (W.ownsRow w0.heap.size 3 1 v l.length (iCells l)):=hown
  have hbase:w0.heap.size≤(W.alloc (.cells #[.int .i64 r] 3)).heap.size:=by simp only [World.size_alloc];have:=hB.size;omega
  clear hown hA hB
  go_enter Tryz.func61,Tryz.ntmps61
  go_wp2_with (at_builtin;refine wpList_append_own _ rfl _ _ 33 rfl w0.heap.size 3 i0 (.int .i64 0) 1 8 Tryz.underlying33 hi hz0 hz1 hz2 rfl (by decide) _ l.length _ rfl (HO.out.alloc _) ⟨W.heap.size,0,none⟩ 1 1 [.int .i64 r] rfl rfl news ones (by unfold maxLen;omega) (by omega) hbase ?_;intro v' w2 ho hg hn;obtain ⟨gg,cc,hvv⟩:=own_is ho (by omega);subst hvv;obtain ⟨hA2,hf⟩:=FIN.out _ w2 ho hg;obtain ⟨c2,f2⟩:=hA2.one)
  go_end0
  exact ⟨rfl,hf.1,hf.2⟩
theorem Regions_yes (c:Ch) (f:Fv) (w:World) (hc:Ok c) (h:TyAt w f c.ty):Calls Tryz.prog 33 #[f.v] w fun e w'=>(∃ v,e=.returned v∧w'.ownsRow w.heap.size 3 1 v c.regs.length (iCells c.regs))∧Below w.heap.size w w':=by
 have CS:Hid (Calls Tryz.prog 59 #[f.v] (w.alloc f.o) fun e w'=>e=.returned (.bool true)∧Below (w.alloc f.o).heap.size (w.alloc f.o) w'):=by
  have:=some_any c.ty f (w.alloc f.o) (h.bel (belA bR))
  rw [hc.is] at this
  exact this
 have CE:Hid (∀ W,Below w.heap.size w W→Calls Tryz.prog 60 #[f.v,fnB 61 W.heap.size] (W.alloc (One (.slice none 0 0) 33)) fun e w'=>e=.returned (.tuple #[])∧JR w W.heap.size c.regs w'):=fun W hW=>by
  have:=each_any (tellR w W.heap.size) c f [] (W.alloc (One (.slice none 0 0) 33)) hc.ok (by have:=hc.deep;simp;omega) h ⟨_,At.new _ _,World.ownsRow_nil _ _ _ _,belA hW,hW.size⟩
  exact this
 have A0:At (w.alloc f.o) w.heap.size f.o:=At.new _ _
 obtain ⟨k,m,r,s,a,n,cap⟩:=f
 show Calls Tryz.prog 33 #[tyV k m r s a n cap] w _
 clear h
 go_enter Tryz.func33,Tryz.ntmps33
 go_wp2_with (first
  | (go_at_call 59;refine CS.out.mono ?_;rintro e w1 ⟨rfl,hb1⟩;have A1:=A0.below hb1;obtain ⟨hlt,p0,p1,p2,p3,p4⟩:=A1.ty)
  | (go_at_call 60;refine (CE.out w1 (below1 hb1)).mono ?_;rintro e w2 ⟨rfl,v,hv1,hv2,hv3,hv4⟩;obtain ⟨aa,cc,hvv⟩:=own_sl hv2;subst hvv;obtain ⟨c1,f1⟩:=hv1.one))
 go_ret
 exact ⟨⟨_,rfl,hv2⟩,hv3⟩
theorem chainsP_ex {n:Nat}:∀ (fs:List Ty),(∀ t∈fs,PlainT n t)→∃ cs:List Ch,fs=cs.map Ch.ty∧∀ c∈cs,c.ok n∧c.depth≤48
 | [],_=>⟨[],rfl,fun c h=>by simp at h⟩
 | t::fs,h=>by
  obtain ⟨cs,rfl,h2⟩:=chainsP_ex fs (fun u hu=>h u (List.mem_cons_of_mem _ hu))
  obtain ⟨c,rfl,h3,h4,-⟩:=h t (List.mem_cons_self ..)
  refine ⟨c::cs,rfl,fun d hd=>?_⟩
  rcases List.mem_cons.1 hd with rfl|hd
  ·exact ⟨h3,h4⟩
  ·exact h2 d hd
theorem chainsM_ex {n:Nat}:∀ (fs:List Ty),(∀ t∈fs,mayB n 48 t=true)→∃ cs:List Ch,fs=cs.map Ch.ty∧∀ c∈cs,c.ok n∧c.depth≤48
 | [],_=>⟨[],rfl,fun c h=>by simp at h⟩
 | t::fs,h=>by
  obtain ⟨cs,rfl,h2⟩:=chainsM_ex fs (fun u hu=>h u (List.mem_cons_of_mem _ hu))
  obtain ⟨c,rfl,h3,h4⟩:=mayB_ch (h t (List.mem_cons_self ..))
  refine ⟨c::cs,rfl,fun d hd=>?_⟩
  rcases List.mem_cons.1 hd with rfl|hd
  ·exact ⟨h3,h4⟩
  ·exact h2 d hd
theorem SC.bel {w W:World} {a:Option Addr} {n cap:Nat} {so:Bool} (h:SC w a n cap so) (hW:Below w.heap.size w W):SC W a n cap so:=⟨fun W' hW'=>h.call W' (jB hW hW'),h.le⟩
def mayL (n:Nat) (so:Bool) (ts:List Ty):Bool:=so && ts.all (mayB n 48)
theorem mayL_iff {n:Nat} {so:Bool} {ts:List Ty}:mayL n so ts=true↔so=true∧∀ t∈ts,mayB n 48 t=true:=by
 unfold mayL
 rw [Bool.and_eq_true,List.all_eq_true]
theorem cx_of {w:World} {a la:Option Addr} {n cap ln lcap:Nat} {ss:List (List Ty)} {ts:List Ty} (h:StAt w a n cap ss) (hl:LcAt w la ln lcap ts) {b1 b2 b3:Nat→Bool} (hb:Flt ss b1 b2 b3) :
  ∃ fc cl,Cx w a la n cap ln lcap (mayL n (decide ((stRes n b1 b2 b3).2=0)) ts) fc cl∧(mayL n (decide ((stRes n b1 b2 b3).2=0)) ts=true→ts=cl.map Ch.ty∧(∀ c∈cl,c.depth≤48)∧(∀ j,j<n→fld ss j=(fc j).map Ch.ty∧∀ c∈fc j,c.depth≤48)):=by
 have hS:=sc_of h hb
 obtain ⟨ok,hok⟩:∃ ok,ok=mayL n (decide ((stRes n b1 b2 b3).2=0)) ts:=⟨_,rfl⟩
 rw [← hok]
 have hall:∀ W,Below w.heap.size w W→Calls Tryz.prog 113 #[.slice a n cap,.slice la ln lcap] W fun e w'=>e=.returned (.bool ok)∧Below W.heap.size W w':=fun W hW=>all_any (hS.bel hW) (hl.bel hW) ok (by rw [hok];exact mayL_iff)
 cases hk:ok with
 | false =>
  refine ⟨fun _=>[],[],⟨fun W hW=>by have:=hall W hW;rw [hk] at this;exact this,(fun e=>by cases e),(fun e=>by cases e)⟩,(fun e=>by cases e)⟩
 | true =>
  rw [hk] at hok
  obtain ⟨h1,h2⟩:=mayL_iff.1 hok.symm
  rw [decide_eq_true_iff] at h1
  obtain ⟨g1,g2,g3,g4,-⟩:=stRes_ok h1
  have hlen:=h.len
  have hF:Fine ss:=hb.fine (fun j hj=>g2 j (by omega))
  have hfc:∀ j,∃ cs:List Ch,j<n→fld ss j=cs.map Ch.ty∧cs.length≤8∧∀ c∈cs,c.ok n∧c.depth≤48:=fun j=>by
   by_cases hj:j<n
   ·obtain ⟨fs,hfs⟩:∃ fs,ss[j]?=some fs:=⟨_,List.getElem?_eq_getElem (by omega)⟩
    obtain ⟨k1,k2,k3⟩:=hF j fs hfs
    rw [← hlen] at k3
    obtain ⟨cs,e1,e2⟩:=chainsP_ex fs k3
    refine ⟨cs,fun _=>⟨by rw [fld_of hfs];exact e1,?_,e2⟩⟩
    rw [e1,List.length_map] at k2
    exact k2
   ·exact ⟨[],fun h=>absurd h hj⟩
  obtain ⟨fc,hfc⟩:∃ fc:Nat→List Ch,∀ j,j<n→fld ss j=(fc j).map Ch.ty∧(fc j).length≤8∧∀ c∈fc j,c.ok n∧c.depth≤48:=⟨fun j=>Classical.choose (hfc j),fun j=>Classical.choose_spec (hfc j)⟩
  obtain ⟨cl,e1,e2⟩:=chainsM_ex ts h2
  refine ⟨fc,cl,⟨fun W hW=>by have:=hall W hW;rw [hk] at this;exact this,fun _=>⟨fun j hj=>?_,fun j hj c hc=>((hfc j hj).2.2 c hc).1,by omega,fun j hj=>(hfc j hj).2.1⟩,fun _=>⟨by rw [← e1];exact hl,fun c hc=>(e2 c hc).1⟩⟩,fun _=>⟨e1,fun c hc=>(e2 c hc).2,fun j hj=>⟨(hfc j hj).1,fun c hc=>((hfc j hj).2.2 c hc).2⟩⟩⟩
  obtain ⟨fs,hfs⟩:∃ fs,ss[j]?=some fs:=⟨_,List.getElem?_eq_getElem (by omega)⟩
  obtain ⟨g,off,fa,fcap,e3,e4,e5,e6⟩:=h.one hfs
  have e7:=(hfc j hj).1
  rw [fld_of hfs] at e7
  refine ⟨g,off,fa,fcap,e3,e4,?_,by rw [← e7];exact e6⟩
  rw [e7,List.length_map] at e5
  exact e5
abbrev hO (nm:ByteArray) (lv:Int) (oa:Option Addr) (on oc:Nat) (pa:Int) (la:Option Addr) (ln lc:Nat) (na:Option Addr) (nn nc:Nat) (qa:Option Addr) (qn qc:Nat) (sa:Option Addr) (sn sc:Nat) (im:Bool):Obj:=.cells #[.string nm,.int .i64 lv,.slice oa on oc,.int .i64 pa,.slice la ln lc,.slice na nn nc,.slice qa qn qc,.slice sa sn sc,.bool im] 156 (0,0)
theorem At.hd {w:World} {b:Nat} {nm:ByteArray} {lv:Int} {oa:Option Addr} {on oc:Nat} {pa:Int} {la:Option Addr} {ln lc:Nat} {na:Option Addr} {nn nc:Nat} {qa:Option Addr} {qn qc:Nat} {sa:Option Addr} {sn sc:Nat} {im:Bool} (h:At w b (hO nm lv oa on oc pa la ln lc na nn nc qa qn qc sa sn sc im)):w.cell? ⟨b,0,none⟩=some (.string nm)∧w.cell? ⟨b,1,none⟩=some (.int .i64 lv)∧w.cell? ⟨b,2,none⟩=some (.slice oa on oc)∧w.cell? ⟨b,3,none⟩=some (.int .i64 pa)∧w.cell? ⟨b,4,none⟩=some (.slice la ln lc)∧w.cell? ⟨b,5,none⟩=some (.slice na nn nc)∧w.cell? ⟨b,6,none⟩=some (.slice qa qn qc)∧w.cell? ⟨b,7,none⟩=some (.slice sa sn sc)∧w.cell? ⟨b,8,none⟩=some (.bool im):=by
 unfold At at h
 exact ⟨by simp [World.cell?,h],by simp [World.cell?,h],by simp [World.cell?,h],by simp [World.cell?,h],by simp [World.cell?,h],by simp [World.cell?,h],by simp [World.cell?,h],by simp [World.cell?,h],by simp [World.cell?,h]⟩
def regP (lv pa:Int) (n:Nat) (q:Int):Prop:=q<lv∧(0≤q∨pa<(n:Int))
theorem pat_nil (w:World):PAt w ⟨0,none,0,0⟩ []:=⟨⟨rfl,Nat.le_refl _,by simp,fun h=>absurd rfl h,fun x hx=>by simp at hx,fun _=>rfl⟩,by decide,by decide⟩
theorem wyX_nil {ok:Bool} {fc:Nat→List Ch} {cl:List Ch} (h:ok=true→0<cl.length):ok=(wyX ok fc cl 0 []).isSome:=by
 cases ok with
 | false=>rfl
 | true =>
  have h1:=h rfl
  unfold wyX wayP
  rw [if_pos rfl,if_pos ⟨by decide,by simp⟩]
  show true=((cl[0]?).bind fun c=>wayC fc c []).isSome
  rw [List.getElem?_eq_getElem h1]
  rfl
theorem locals_any (nm:ByteArray) (lv:Int) (oa:Option Addr) (on oc:Nat) (pa:Int) (la:Option Addr) (ln lc:Nat) (na:Option Addr) (nn nc:Nat) (qa:Option Addr) (qn qc:Nat) (sa:Option Addr) (sn sc:Nat) (im:Bool) (w:World)
  {ok:Bool} {fc:Nat→List Ch} {cl:List Ch} (hC:Cx w sa la sn sc ln lc ok fc cl) (hcl:ok=true→∀ c∈cl,Ok c) (hl0:0<ln) (hl1:ln≤512) (r:Bool) (hr:r=true↔ok=true∧∀ (n:Nat) (c:Ch),cl[n]?=some c→∀ q∈c.regs,regP lv pa n q) :
  Calls Tryz.prog 102 #[hV nm lv oa on oc pa la ln lc na nn nc qa qn qc sa sn sc im] w fun e w'=>e=.returned (.bool r)∧Below w.heap.size w w':=by
 have hlen:ok=true→cl.length=ln:=fun h=>by have:=(hC.lf h).at_.len;rw [List.length_map] at this;omega
 have CM:Hid (Calls Tryz.prog 134 #[.slice sa sn sc,.slice la ln lc,plV 0 none 0 0] (w.alloc (hO nm lv oa on oc pa la ln lc na nn nc qa qn qc sa sn sc im)) fun e w'=>e=.returned (.bool ok)∧Below (w.alloc (hO nm lv oa on oc pa la ln lc na nn nc qa qn qc sa sn sc im)).heap.size (w.alloc (hO nm lv oa on oc pa la ln lc na nn nc qa qn qc sa sn sc im)) w') :=
  May_any (belA bR) hC (x:=⟨0,none,0,0⟩) (p:=[]) (pat_nil _) ok (wyX_nil (fun h=>by rw [hlen h];exact hl0))
 have HH:Hid (At (w.alloc (hO nm lv oa on oc pa la ln lc na nn nc qa qn qc sa sn sc im)) w.heap.size (hO nm lv oa on oc pa la ln lc na nn nc qa qn qc sa sn sc im)):=At.new _ _
 cases hok:ok with
 | false =>
  have e1:r=false:=by
   cases r with
   | false=>rfl
   | true=>have:=(hr.1 rfl).1;rw [hok] at this;cases this
  subst e1
  rw [hok] at CM
  clear hr hC hcl hlen hok
  go_enter Tryz.func102,Tryz.ntmps102
  go_wp2_with (go_at_call 134;refine CM.out.mono ?_;rintro e w1 ⟨rfl,hb1⟩)
  go_ret
  exact ⟨rfl,below1 hb1⟩
 | true =>
  rw [hok] at CM
  have HLF:=jH (hC.lf hok)
  have HOK:=jH (hcl hok)
  have HLEN:=jH (hlen hok)
  have HR:Hid (r=true↔∀ (n:Nat) (c:Ch),cl[n]?=some c→∀ q∈c.regs,regP lv pa n q):=jH ⟨fun h=>(hr.1 h).2,fun h=>hr.2 ⟨hok,h⟩⟩
  have l1:(ln:Int)≤512:=by omega
  clear hr hC hcl hlen hok hl0 hl1
  go_enter Tryz.func102,Tryz.ntmps102
  go_upto_region 3 with (go_at_call 134;refine CM.out.mono ?_;rintro e w1 ⟨rfl,hb1⟩;have HA1:=jH (HH.out.below hb1);have HB1:=jH (below1 hb1);clear hb1;obtain ⟨d0,d1,d2,d3,d4,d5,d6,d7,d8⟩:=HA1.out.hd)
  go_wp2_with fail
  clear d0 d1 d2 d3 d4 d5 d6 d7 d8 CM HH
  go_loopw [19] (fun v V=>∃ i:Nat,i≤ln∧v=.int .i64 (i:Int)∧(∀ (n:Nat) (c:Ch),n<i→cl[n]?=some c→∀ q∈c.regs,regP lv pa n q)∧At V w.heap.size (hO nm lv oa on oc pa la ln lc na nn nc qa qn qc sa sn sc im)∧Below w.heap.size w V) (fun v _=>ln - (intOf v).toNat)
  case atStart=>exact ⟨0,Nat.zero_le _,rfl,fun n c h=>by omega,HA1.out,HB1.out⟩
  case round =>
   clear HA1 HB1
   obtain ⟨i,hi,rfl,h1,hA,hB⟩:=hrel
   have HI1:=jH h1
   have HA:=jH hA
   have HB:=jH hB
   clear h1 hA hB
   by_cases hlt:i<ln
   ·obtain ⟨c,hc⟩:∃ c,cl[i]?=some c:=⟨_,List.getElem?_eq_getElem (by have:=HLEN.out;omega)⟩
    have hty:(cl.map Ch.ty)[i]?=some c.ty:=by rw [List.getElem?_map,hc];rfl
    obtain ⟨g,off,f,ea,hc5,hT⟩:=(HLF.out.bel HB.out).at_.one hty
    have ea2:la=some ⟨g,off,none⟩:=ea
    subst ea2
    obtain ⟨hg,p0,p1,p2,p3,p4⟩:=hc5
    have CR:=jH (Regions_yes c f (wr.alloc f.o) (HOK.out c (List.mem_of_getElem? hc)) (hT.bel (belA bR)))
    have HA2:Hid (At (wr.alloc f.o) w.heap.size (hO nm lv oa on oc pa (some ⟨g,off,none⟩) ln lc na nn nc qa qn qc sa sn sc im)):=HA.out.alloc _
    have HDE:Hid (c.regs.length≤48):=by have h1:=regs_le c;have h2:=(HOK.out c (List.mem_of_getElem? hc)).deep;show c.regs.length≤48;omega
    obtain ⟨kk,mm,rr,ss,aa,nn',cc⟩:=f
    have i0:(0:Int)≤(i:Int):=by omega
    have i1:(i:Int)<(ln:Int):=by omega
    have HLT:=jH hlt
    have HCC:=jH hc
    clear hT hty hc ea hlt hi
    go_wp2_with (go_at_call 33;refine CR.out.mono ?_;rintro e w2 ⟨⟨v,rfl,hrow⟩,hb2⟩;have HA3:=jH (HA2.out.below hb2);have HB3:=jH (jB HB.out (below1 hb2));clear hb2;have HW:=jH hrow;obtain ⟨ra,rc,hv⟩:=own_sl hrow;subst hv;clear hrow)
    obtain ⟨m,hm⟩:∃ m,m=c.regs.length:=⟨_,rfl⟩
    have HM:=jH hm
    rw [← hm] at HW ⊢
    have m0:(m:Int)≤48:=by have:=HDE.out;omega
    clear hm p0 p1 p2 p3 p4 hg CR HA2
    obtain ⟨d0,d1,d2,d3,d4,d5,d6,d7,d8⟩:=HA3.out.hd
    go_loopw [27] (fun v V=>∃ j:Nat,j≤m∧v=.int .i64 (j:Int)∧(∀ k q,k<j→c.regs[k]?=some q→regP lv pa i q)∧V=w2) (fun v _=>m - (intOf v).toNat)
    case atStart=>exact ⟨0,Nat.zero_le _,rfl,fun k q h=>by omega,rfl⟩
    case round =>
     obtain ⟨j,hj,rfl,h2,rfl⟩:=hrel
     have HJ2:=jH h2
     clear h2
     by_cases hlt:j<m
     ·obtain ⟨q,hq⟩:∃ q,c.regs[j]?=some q:=⟨_,List.getElem?_eq_getElem (by have:=HM.out;omega)⟩
      obtain ⟨gr,rc',e0⟩:=own_is HW.out (by omega)
      have e1:ra=some ⟨gr,0,none⟩:=by cases e0;rfl
      subst e1
      obtain ⟨cq,hgr⟩:=own_cell HW.out (j:=j) (u:=.int .i64 q) (by rw [iCells,List.getElem?_map,hq];rfl)
      have j0:(0:Int)≤(j:Int):=by omega
      have j1:(j:Int)<(m:Int):=by omega
      have HJ:=jH hlt
      have HQ:=jH hq
      clear hlt hj hq e0
      by_cases hq1:lv≤q
      ·have hno:r=false:=by
        cases hrr:r with
        | false=>rfl
        | true =>
         have:=(HR.out.1 hrr i c HCC.out q (List.mem_of_getElem? HQ.out)).1
         omega
       go_wp2_with fail
       go_ret
       refine ⟨?_,HB3.out⟩
       first|rfl|(rw [hno];rfl)
      ·by_cases hq2:q<0
       ·by_cases hq3:(i:Int)≤pa
        ·have hno:r=false:=by
          cases hrr:r with
          | false=>rfl
          | true =>
           have:=(HR.out.1 hrr i c HCC.out q (List.mem_of_getElem? HQ.out)).2
           omega
         go_wp2_with fail
         go_ret
         refine ⟨?_,HB3.out⟩
         first|rfl|(rw [hno];rfl)
        ·have HP:Hid (regP lv pa i q):=⟨by omega,.inr (by omega)⟩
         go_wp2_with fail
         refine ⟨⟨j+1,HJ.out,rfl,fun k q' hk hq'=>?_,trivial⟩,?_⟩
         ·rcases Nat.lt_or_ge k j with h1|h1
          ·exact HJ2.out k q' h1 hq'
          ·obtain rfl:k=j:=by omega
           have:=HQ.out
           rw [hq'] at this
           cases this
           exact HP.out
         ·show m - ((j:Int)+1).toNat<m - (j:Int).toNat
          have:=HJ.out
          omega
       ·have HP:Hid (regP lv pa i q):=⟨by omega,.inl (by omega)⟩
        go_wp2_with fail
        refine ⟨⟨j+1,HJ.out,rfl,fun k q' hk hq'=>?_,trivial⟩,?_⟩
        ·rcases Nat.lt_or_ge k j with h1|h1
         ·exact HJ2.out k q' h1 hq'
         ·obtain rfl:k=j:=by omega
          have:=HQ.out
          rw [hq'] at this
          cases this
          exact HP.out
        ·show m - ((j:Int)+1).toNat<m - (j:Int).toNat
         have:=HJ.out
         omega
     ·obtain rfl:j=m:=by omega
      have lt:¬ (j:Int)<(j:Int):=by omega
      clear hlt hj
      go_wp2_with fail
      refine ⟨⟨i+1,HLT.out,rfl,fun n c' hn hc' q hq=>?_,HA3.out,HB3.out⟩,?_⟩
      ·rcases Nat.lt_or_ge n i with h1|h1
       ·exact HI1.out n c' h1 hc' q hq
       ·obtain rfl:n=i:=by omega
        have:=HCC.out
        rw [hc'] at this
        cases this
        obtain ⟨k,hk⟩:=List.getElem?_of_mem hq
        exact HJ2.out k q (by have:=(List.getElem?_eq_some_iff.1 hk).1;have:=HM.out;omega) hk
      ·show ln - ((i:Int)+1).toNat<ln - (i:Int).toNat
       have:=HLT.out
       omega
   ·obtain rfl:i=ln:=by omega
    have lt:¬ (i:Int)<(i:Int):=by omega
    clear hlt hi
    go_wp2_with fail
    go_ret
    refine ⟨?_,HB.out⟩
    have:r=true:=HR.out.2 (fun n c hc q hq=>HI1.out n c (by have:=(List.getElem?_eq_some_iff.1 hc).1;have:=HLEN.out;omega) hc q hq)
    rw [this]
    rfl
end Go.Proofs.YtdlggpcakaofoaaGreat
