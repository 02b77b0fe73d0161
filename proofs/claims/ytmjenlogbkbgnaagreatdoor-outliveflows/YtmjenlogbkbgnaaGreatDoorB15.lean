import Derived.Test.YtmjenlogbkbgnaaGreatDoorB14
import Derived.Laws.AppendOwnNone
namespace Go.Proofs.YtmjenlogbkbgnaaGreatDoor
open Go.RowKit Go.Shelf
set_option linter.unusedVariables false
set_option linter.unusedSimpArgs false
set_option maxRecDepth 100000
set_option maxHeartbeats 8000000
abbrev hO (nm:ByteArray) (lv:Int) (oa:Option Addr) (on oc:Nat) (pa:Int) (la:Option Addr) (ln lc:Nat) (na:Option Addr) (nn nc:Nat) (qa:Option Addr) (qn qc:Nat) (sa:Option Addr) (sn sc:Nat) (im:Bool):Obj:=.cells #[.string nm,.int .i64 lv,.slice oa on oc,.int .i64 pa,.slice la ln lc,.slice na nn nc,.slice qa qn qc,.slice sa sn sc,.bool im] 241 (0,0)
theorem At.hd {w:World} {b:Nat} {nm:ByteArray} {lv:Int} {oa:Option Addr} {on oc:Nat} {pa:Int} {la:Option Addr} {ln lc:Nat} {na:Option Addr} {nn nc:Nat} {qa:Option Addr} {qn qc:Nat} {sa:Option Addr} {sn sc:Nat} {im:Bool} (h:At w b (hO nm lv oa on oc pa la ln lc na nn nc qa qn qc sa sn sc im)):w.cell? ⟨b,0,none⟩=some (.string nm)∧w.cell? ⟨b,1,none⟩=some (.int .i64 lv)∧w.cell? ⟨b,2,none⟩=some (.slice oa on oc)∧w.cell? ⟨b,3,none⟩=some (.int .i64 pa)∧w.cell? ⟨b,4,none⟩=some (.slice la ln lc)∧w.cell? ⟨b,5,none⟩=some (.slice na nn nc)∧w.cell? ⟨b,6,none⟩=some (.slice qa qn qc)∧w.cell? ⟨b,7,none⟩=some (.slice sa sn sc)∧w.cell? ⟨b,8,none⟩=some (.bool im):=by
 unfold At at h
 exact ⟨by simp [World.cell?,h],by simp [World.cell?,h],by simp [World.cell?,h],by simp [World.cell?,h],by simp [World.cell?,h],by simp [World.cell?,h],by simp [World.cell?,h],by simp [World.cell?,h],by simp [World.cell?,h]⟩
def regP (lv pa:Int) (n:Nat) (q:Int):Prop:=q<lv∧(0≤q∨pa<(n:Int))
theorem pat_nil (w:World):PAt w ⟨0,none,0,0⟩ []:=⟨⟨rfl,Nat.le_refl _,by simp,fun h=>absurd rfl h,fun x hx=>by simp at hx,fun _=>rfl⟩,by decide,by decide⟩
theorem wyX_nil {ok:Bool} {fc:Nat→List Ch} {cl:List Ch} (h:ok=true→0<cl.length):ok=(wyX ok fc cl 0 []).isSome:=by
 cases ok with
 | false=>rfl
 | true =>
  have h1:=h rfl
  unfold wyX wayP
  rw [if_pos rfl,if_pos ⟨by decide,by simp⟩]
  show true=((cl[0]?).bind fun c=>wayC fc c []).isSome
  rw [List.getElem?_eq_getElem h1]
  rfl
theorem locals_any (nm:ByteArray) (lv:Int) (oa:Option Addr) (on oc:Nat) (pa:Int) (la:Option Addr) (ln lc:Nat) (na:Option Addr) (nn nc:Nat) (qa:Option Addr) (qn qc:Nat) (sa:Option Addr) (sn sc:Nat) (im:Bool) (w:World)
  {ok:Bool} {fc:Nat→List Ch} {cl:List Ch} (hC:Cx w sa la sn sc ln lc ok fc cl) (hcl:ok=true→∀ c∈cl,Ok c) (hl0:0<ln) (hl1:ln≤512) (r:Bool) (hr:r=true↔ok=true∧∀ (n:Nat) (c:Ch),cl[n]?=some c→∀ q∈c.regs,regP lv pa n q) :
  Calls Tryz.prog 169 #[hV nm lv oa on oc pa la ln lc na nn nc qa qn qc sa sn sc im] w fun e w'=>e=.returned (.bool r)∧Below w.heap.size w w':=by
 have hlen:ok=true→cl.length=ln:=fun h=>by have:=(hC.lf h).at_.len;rw [List.length_map] at this;omega
 have CM:Hid (Calls Tryz.prog 183 #[.slice sa sn sc,.slice la ln lc,plV 0 none 0 0] (w.alloc (hO nm lv oa on oc pa la ln lc na nn nc qa qn qc sa sn sc im)) fun e w'=>e=.returned (.bool ok)∧Below (w.alloc (hO nm lv oa on oc pa la ln lc na nn nc qa qn qc sa sn sc im)).heap.size (w.alloc (hO nm lv oa on oc pa la ln lc na nn nc qa qn qc sa sn sc im)) w') :=
  May_any (belA bR) hC (x:=⟨0,none,0,0⟩) (p:=[]) (pat_nil _) ok (wyX_nil (fun h=>by rw [hlen h];exact hl0))
 have HH:Hid (At (w.alloc (hO nm lv oa on oc pa la ln lc na nn nc qa qn qc sa sn sc im)) w.heap.size (hO nm lv oa on oc pa la ln lc na nn nc qa qn qc sa sn sc im)):=At.new _ _
 cases hok:ok with
 | false =>
  have e1:r=false:=by
   cases r with
   | false=>rfl
   | true=>have:=(hr.1 rfl).1;rw [hok] at this;cases this
  subst e1
  rw [hok] at CM
  clear hr hC hcl hlen hok
  go_enter Tryz.func169,Tryz.ntmps169
  go_wp2_with (go_at_call 183;refine CM.out.mono ?_;rintro e w1 ⟨rfl,hb1⟩)
  go_ret
  exact ⟨rfl,below1 hb1⟩
 | true =>
  rw [hok] at CM
  have HLF:=jH (hC.lf hok)
  have HOK:=jH (hcl hok)
  have HLEN:=jH (hlen hok)
  have HR:Hid (r=true↔∀ (n:Nat) (c:Ch),cl[n]?=some c→∀ q∈c.regs,regP lv pa n q):=jH ⟨fun h=>(hr.1 h).2,fun h=>hr.2 ⟨hok,h⟩⟩
  have l1:(ln:Int)≤512:=by omega
  clear hr hC hcl hlen hok hl0 hl1
  go_enter Tryz.func169,Tryz.ntmps169
  go_upto_region 3 with (go_at_call 183;refine CM.out.mono ?_;rintro e w1 ⟨rfl,hb1⟩;have HA1:=jH (HH.out.below hb1);have HB1:=jH (below1 hb1);clear hb1;obtain ⟨d0,d1,d2,d3,d4,d5,d6,d7,d8⟩:=HA1.out.hd)
  go_wp2_with fail
  clear d0 d1 d2 d3 d4 d5 d6 d7 d8 CM HH
  go_loopw [19] (fun v V=>∃ i:Nat,i≤ln∧v=.int .i64 (i:Int)∧(∀ (n:Nat) (c:Ch),n<i→cl[n]?=some c→∀ q∈c.regs,regP lv pa n q)∧At V w.heap.size (hO nm lv oa on oc pa la ln lc na nn nc qa qn qc sa sn sc im)∧Below w.heap.size w V) (fun v _=>ln - (intOf v).toNat)
  case atStart=>exact ⟨0,Nat.zero_le _,rfl,fun n c h=>by omega,HA1.out,HB1.out⟩
  case round =>
   clear HA1 HB1
   obtain ⟨i,hi,rfl,h1,hA,hB⟩:=hrel
   have HI1:=jH h1
   have HA:=jH hA
   have HB:=jH hB
   clear h1 hA hB
   by_cases hlt:i<ln
   ·obtain ⟨c,hc⟩:∃ c,cl[i]?=some c:=⟨_,List.getElem?_eq_getElem (by have:=HLEN.out;omega)⟩
    have hty:(cl.map Ch.ty)[i]?=some c.ty:=by rw [List.getElem?_map,hc];rfl
    obtain ⟨g,off,f,ea,hc5,hT⟩:=(HLF.out.bel HB.out).at_.one hty
    have ea2:la=some ⟨g,off,none⟩:=ea
    subst ea2
    obtain ⟨hg,p0,p1,p2,p3,p4⟩:=hc5
    have CR:=jH (Regions_yes c f (wr.alloc f.o) (HOK.out c (List.mem_of_getElem? hc)) (hT.bel (belA bR)))
    have HA2:Hid (At (wr.alloc f.o) w.heap.size (hO nm lv oa on oc pa (some ⟨g,off,none⟩) ln lc na nn nc qa qn qc sa sn sc im)):=HA.out.alloc _
    have HDE:Hid (c.regs.length≤48):=by have h1:=regs_le c;have h2:=(HOK.out c (List.mem_of_getElem? hc)).deep;show c.regs.length≤48;omega
    obtain ⟨kk,mm,rr,ss,aa,nn',cc⟩:=f
    have i0:(0:Int)≤(i:Int):=by omega
    have i1:(i:Int)<(ln:Int):=by omega
    have HLT:=jH hlt
    have HCC:=jH hc
    clear hT hty hc ea hlt hi
    go_wp2_with (go_at_call 22;refine CR.out.mono ?_;rintro e w2 ⟨⟨v,rfl,hrow⟩,hb2⟩;have HA3:=jH (HA2.out.below hb2);have HB3:=jH (jB HB.out (below1 hb2));clear hb2;have HW:=jH hrow;obtain ⟨ra,rc,hv⟩:=own_sl hrow;subst hv;clear hrow)
    obtain ⟨m,hm⟩:∃ m,m=c.regs.length:=⟨_,rfl⟩
    have HM:=jH hm
    rw [← hm] at HW ⊢
    have m0:(m:Int)≤48:=by have:=HDE.out;omega
    clear hm p0 p1 p2 p3 p4 hg CR HA2
    obtain ⟨d0,d1,d2,d3,d4,d5,d6,d7,d8⟩:=HA3.out.hd
    go_loopw [27] (fun v V=>∃ j:Nat,j≤m∧v=.int .i64 (j:Int)∧(∀ k q,k<j→c.regs[k]?=some q→regP lv pa i q)∧V=w2) (fun v _=>m - (intOf v).toNat)
    case atStart=>exact ⟨0,Nat.zero_le _,rfl,fun k q h=>by omega,rfl⟩
    case round =>
     obtain ⟨j,hj,rfl,h2,rfl⟩:=hrel
     have HJ2:=jH h2
     clear h2
     by_cases hlt:j<m
     ·obtain ⟨q,hq⟩:∃ q,c.regs[j]?=some q:=⟨_,List.getElem?_eq_getElem (by have:=HM.out;omega)⟩
      obtain ⟨gr,rc',e0⟩:=own_is HW.out (by omega)
      have e1:ra=some ⟨gr,0,none⟩:=by cases e0;rfl
      subst e1
      obtain ⟨cq,hgr⟩:=own_cell HW.out (j:=j) (u:=.int .i64 q) (by rw [iCells,List.getElem?_map,hq];rfl)
      have j0:(0:Int)≤(j:Int):=by omega
      have j1:(j:Int)<(m:Int):=by omega
      have HJ:=jH hlt
      have HQ:=jH hq
      clear hlt hj hq e0
      by_cases hq1:lv≤q
      ·have hno:r=false:=by
        cases hrr:r with
        | false=>rfl
        | true =>
         have:=(HR.out.1 hrr i c HCC.out q (List.mem_of_getElem? HQ.out)).1
         omega
       go_wp2_with fail
       go_ret
       refine ⟨?_,HB3.out⟩
       first|rfl|(rw [hno];rfl)
      ·by_cases hq2:q<0
       ·by_cases hq3:(i:Int)≤pa
        ·have hno:r=false:=by
          cases hrr:r with
          | false=>rfl
          | true =>
           have:=(HR.out.1 hrr i c HCC.out q (List.mem_of_getElem? HQ.out)).2
           omega
         go_wp2_with fail
         go_ret
         refine ⟨?_,HB3.out⟩
         first|rfl|(rw [hno];rfl)
        ·have HP:Hid (regP lv pa i q):=⟨by omega,.inr (by omega)⟩
         go_wp2_with fail
         refine ⟨⟨j+1,HJ.out,rfl,fun k q' hk hq'=>?_,trivial⟩,?_⟩
         ·rcases Nat.lt_or_ge k j with h1|h1
          ·exact HJ2.out k q' h1 hq'
          ·obtain rfl:k=j:=by omega
           have:=HQ.out
           rw [hq'] at this
           cases this
           exact HP.out
         ·show m - ((j:Int)+1).toNat<m - (j:Int).toNat
          have:=HJ.out
          omega
       ·have HP:Hid (regP lv pa i q):=⟨by omega,.inl (by omega)⟩
        go_wp2_with fail
        refine ⟨⟨j+1,HJ.out,rfl,fun k q' hk hq'=>?_,trivial⟩,?_⟩
        ·rcases Nat.lt_or_ge k j with h1|h1
         ·exact HJ2.out k q' h1 hq'
         ·obtain rfl:k=j:=by omega
          have:=HQ.out
          rw [hq'] at this
          cases this
          exact HP.out
        ·show m - ((j:Int)+1).toNat<m - (j:Int).toNat
         have:=HJ.out
         omega
     ·obtain rfl:j=m:=by omega
      have lt:¬ (j:Int)<(j:Int):=by omega
      clear hlt hj
      go_wp2_with fail
      refine ⟨⟨i+1,HLT.out,rfl,fun n c' hn hc' q hq=>?_,HA3.out,HB3.out⟩,?_⟩
      ·rcases Nat.lt_or_ge n i with h1|h1
       ·exact HI1.out n c' h1 hc' q hq
       ·obtain rfl:n=i:=by omega
        have:=HCC.out
        rw [hc'] at this
        cases this
        obtain ⟨k,hk⟩:=List.getElem?_of_mem hq
        exact HJ2.out k q (by have:=(List.getElem?_eq_some_iff.1 hk).1;have:=HM.out;omega) hk
      ·show ln - ((i:Int)+1).toNat<ln - (i:Int).toNat
       have:=HLT.out
       omega
   ·obtain rfl:i=ln:=by omega
    have lt:¬ (i:Int)<(i:Int):=by omega
    clear hlt hi
    go_wp2_with fail
    go_ret
    refine ⟨?_,HB.out⟩
    have:r=true:=HR.out.2 (fun n c hc q hq=>HI1.out n c (by have:=(List.getElem?_eq_some_iff.1 hc).1;have:=HLEN.out;omega) hc q hq)
    rw [this]
    rfl
def o4 (o:Ov):List Value:=[.int .u8 (o.k:Int),.int .i64 o.n,.int .i64 o.x.l,.slice o.x.a o.x.n o.x.cap]
def oCells:List Ov→List Value
 | []=>[]
 | o::l=>o4 o++oCells l
theorem oCells_len:∀ l:List Ov,(oCells l).length=l.length*4
 | []=>rfl
 | o::l=>by
  have:=oCells_len l
  simp only [oCells,List.length_append,this,List.length_cons]
  show 4+l.length*4=_
  omega
theorem oCells_at:∀ (l:List Ov) (i:Nat) (o:Ov),l[i]?=some o→∀ k,k<4→(oCells l)[i*4+k]?=(o4 o)[k]?
 | [],i,f,h,_,_=>by simp at h
 | g::l,0,f,h,k,hk=>by
  simp at h
  subst h
  simp only [oCells,Nat.zero_mul,Nat.zero_add]
  exact List.getElem?_append_left (by simpa [o4] using hk)
 | g::l,i+1,f,h,k,hk=>by
  have:=oCells_at l i f (by simpa using h) k hk
  simp only [oCells]
  rw [List.getElem?_append_right (by simp [o4];omega)]
  rw [show (i+1)*4+k - (o4 g).length=i*4+k by simp [o4];omega]
  exact this
theorem c4_ones (o:Ov):∀ u∈o4 o,u.oneCell'=true:=fun u hu=>by
 simp only [o4,List.mem_cons,List.not_mem_nil,or_false] at hu
 rcases hu with rfl|rfl|rfl|rfl <;> rfl
theorem oCells_ones:∀ l:List Ov,∀ u∈oCells l,u.oneCell'=true
 | [],u,hu=>by simp [oCells] at hu
 | o::l,u,hu=>by
  simp only [oCells,List.mem_append] at hu
  rcases hu with h|h
  ·exact c4_ones o u h
  ·exact oCells_ones l u h
theorem c4_new {W:World} {b k:Nat} {n l:Int} {a:Option Addr} {m cap:Nat} (h:At W b (oO k n l a m cap)):∀ j u,(o4 ⟨k,n,⟨l,a,m,cap⟩⟩)[j]?=some u→W.cell? ((⟨b,0,none⟩:Addr).add j)=some u:=fun j u hu=>by
 unfold At at h
 match j,hu with
 | 0,hu=>simp [o4] at hu;subst hu;simp [Addr.add,World.cell?,h]
 | 1,hu=>simp [o4] at hu;subst hu;simp [Addr.add,World.cell?,h]
 | 2,hu=>simp [o4] at hu;subst hu;simp [Addr.add,World.cell?,h]
 | 3,hu=>simp [o4] at hu;subst hu;simp [Addr.add,World.cell?,h]
 | j+4,hu=>simp [o4] at hu
structure OAt (w:World) (o:Ov) (q:Opd):Prop where
 k:o.k=q.k
 n:o.n=q.n
 l:o.x.l=q.pl.l
 p:PAt w o.x q.pl.p
theorem OAt.bel {w w':World} {o:Ov} {q:Opd} (h:OAt w o q) (hb:Below w.heap.size w w'):OAt w' o q:=⟨h.k,h.n,h.l,h.p.bel hb⟩
structure OL (w:World) (a:Option Addr) (n cap:Nat) (os:List Opd):Prop where
 len:n=os.length
 big:n≤1100000
 nil:a=none→cap=0
 cells:os≠[]→∃ g off vs,a=some ⟨g,off,none⟩∧g<w.heap.size∧vs.length=os.length∧(∀ (j:Nat) (u:Value),(oCells vs)[j]?=some u→w.cell? ⟨g,off+j,none⟩=some u)∧∀ (i:Nat) (v:Ov) (o:Opd),vs[i]?=some v→os[i]?=some o→OAt w v o
theorem OL.bel {w w':World} {a:Option Addr} {n cap:Nat} {os:List Opd} (h:OL w a n cap os) (hb:Below w.heap.size w w'):OL w' a n cap os :=
 ⟨h.len,h.big,h.nil,fun hne=>by
  obtain ⟨g,off,vs,e,hg,hl,hc,ho⟩:=h.cells hne
  exact ⟨g,off,vs,e,Nat.lt_of_lt_of_le hg hb.size,hl,fun j u hu=>(hb.cell (p:=⟨g,off+j,none⟩) hg).trans (hc j u hu),fun i v o hv hq=>(ho i v o hv hq).bel hb⟩⟩
theorem OL.one {w:World} {a:Option Addr} {n cap:Nat} {os:List Opd} (h:OL w a n cap os) {i:Nat} {q:Opd} (hi:os[i]?=some q):∃ g off v,a=some ⟨g,off,none⟩∧g<w.heap.size∧(w.cell? ⟨g,off+i*4,none⟩=some (.int .u8 (v.k:Int))∧w.cell? ⟨g,off+i*4+1,none⟩=some (.int .i64 v.n)∧w.cell? ⟨g,off+i*4+2,none⟩=some (.int .i64 v.x.l)∧w.cell? ⟨g,off+i*4+3,none⟩=some (.slice v.x.a v.x.n v.x.cap))∧OAt w v q:=by
 obtain ⟨g,off,vs,e,hg,hl,hc,ho⟩:=h.cells (fun e=>by subst e;simp at hi)
 have hlt:i<os.length:=(List.getElem?_eq_some_iff.1 hi).1
 obtain ⟨v,hv⟩:∃ v,vs[i]?=some v:=⟨_,List.getElem?_eq_getElem (by omega)⟩
 have at_:=fun k hk=>oCells_at vs i v hv k hk
 refine ⟨g,off,v,e,hg,⟨?_,?_,?_,?_⟩,ho i v q hv hi⟩
 ·exact hc _ _ ((at_ 0 (by omega)).trans rfl)
 ·have:=hc _ _ ((at_ 1 (by omega)).trans rfl);rwa [← Nat.add_assoc] at this
 ·have:=hc _ _ ((at_ 2 (by omega)).trans rfl);rwa [← Nat.add_assoc] at this
 ·have:=hc _ _ ((at_ 3 (by omega)).trans rfl);rwa [← Nat.add_assoc] at this
theorem OL.nul (w:World):OL w none 0 0 []:=⟨rfl,by omega,fun _=>rfl,fun h=>absurd rfl h⟩
theorem ol_of_row {W:World} {B n cap:Nat} {a:Option Addr} {vs:List Ov} {os:List Opd} (h:W.ownsRow B 115 4 (.slice a n cap) n (oCells vs)) (hn:n=os.length) (hl:vs.length=os.length) (hb:n≤1100000) (ho:∀ (i:Nat) (v:Ov) (o:Opd),vs[i]?=some v→os[i]?=some o→OAt W v o):OL W a n cap os:=by
 refine ⟨hn,hb,fun e=>?_,fun hne=>?_⟩
 ·rcases h.2 with ⟨e0,-⟩|⟨g',cap',cur,e0,-⟩
  ·cases e0;rfl
  ·rw [e] at e0;cases e0
 ·have hpos:0<os.length:=List.length_pos_iff.2 hne
  obtain ⟨g,cap',e0⟩:=own_is h (by omega)
  cases e0
  refine ⟨g,0,vs,rfl,?_,hl,fun j u hu=>?_,ho⟩
  ·obtain ⟨u,hu⟩:∃ u,(oCells vs)[0]?=some u:=⟨_,List.getElem?_eq_getElem (by rw [oCells_len];omega)⟩
   exact (own_cell h hu).2
  ·rw [Nat.zero_add]
   exact (own_cell h hu).1
theorem Tryz.info115:(Tryz.prog.info? 115).map (fun i=>(i.zero,i.size,i.bytes))=some (some (.agg #[.int .u8 0,.int .i64 0,.int .i64 0,.slice none 0 0]),4,48):=by kernel_rfl
def opsL (op:Nat) (qa qb:Opd) (args:List Opd):List Opd:=(if (fldO op).testBit 1 then [qa] else [])++(if (fldO op).testBit 2 then [qb] else [])++(if (fldO op).testBit 3 then args else [])
theorem ops_bits (op:Nat):((fldO op).testBit 1=false∧(fldO op).testBit 2=false∧(fldO op).testBit 3=false)∨((fldO op).testBit 1=true∧(fldO op).testBit 2=false∧(fldO op).testBit 3=false)∨((fldO op).testBit 1=true∧(fldO op).testBit 2=true∧(fldO op).testBit 3=false)∨((fldO op).testBit 1=false∧(fldO op).testBit 2=false∧(fldO op).testBit 3=true):=by
 rcases fld_val op with h|h|h|h|h|h|h|h|h|h|h <;> rw [h] <;> decide
theorem one_oat {W:World} {v:Ov} {q:Opd} (h:OAt W v q):∀ (i:Nat) (v':Ov) (o:Opd),[v][i]?=some v'→[q][i]?=some o→OAt W v' o
 | 0,v',o,h1,h2=>by simp at h1 h2;subst h1 h2;exact h
 | i+1,v',o,h1,h2=>by simp at h1
theorem two_oat {W:World} {v u:Ov} {q r:Opd} (h:OAt W v q) (h':OAt W u r):∀ (i:Nat) (v':Ov) (o:Opd),[v,u][i]?=some v'→[q,r][i]?=some o→OAt W v' o
 | 0,v',o,h1,h2=>by simp at h1 h2;subst h1 h2;exact h
 | 1,v',o,h1,h2=>by simp at h1 h2;subst h1 h2;exact h'
 | i+2,v',o,h1,h2=>by simp at h1
theorem OL.news {w:World} {ad:Addr} {n cap:Nat} {os:List Opd} (h:OL w (some ad) n cap os):∃ vs,vs.length=os.length∧(∀ W,Below w.heap.size w W→∀ (j:Nat) (u:Value),(oCells vs)[j]?=some u→W.cell? (ad.add j)=some u)∧∀ (i:Nat) (v:Ov) (o:Opd),vs[i]?=some v→os[i]?=some o→OAt w v o:=by
 by_cases hne:os=[]
 ·subst hne
  exact ⟨[],rfl,fun W hW j u hu=>by simp [oCells] at hu,fun i v o hv=>by simp at hv⟩
 ·obtain ⟨g,off,vs,e,hg,hl,hc,ho⟩:=h.cells hne
  cases e
  exact ⟨vs,hl,fun W hW j u hu=>by rw [Addr.add_mid];exact (hW.cell (p:=⟨g,off+j,none⟩) hg).trans (hc j u hu),ho⟩
theorem bel_nil {B:Nat} {w V V':World} (h:Below B w V) (k:V.grownBy V' (Value.slice none 0 0).ownBlock) (hB:B≤V.heap.size):Below B w V':=h.grown k hB (fun g e=>by cases e)
theorem operandsOf_any (op:Nat) (tl:Int) (ta:Option Addr) (tn tc ak:Nat) (an al:Int) (aa:Option Addr) (am ac bk:Nat) (bn bl:Int) (ba:Option Addr) (bm bc:Nat) (ra:Option Addr) (rn rc:Nat) (sg:ByteArray) (fl:Int) (fa:Option Addr) (fm fc:Nat) (mu:Bool) (fn st nx el ps:Int) (w:World) (qa qb:Opd) (args:List Opd)
  (hA:OAt w ⟨ak,an,⟨al,aa,am,ac⟩⟩ qa) (hB:OAt w ⟨bk,bn,⟨bl,ba,bm,bc⟩⟩ qb) (hR:OL w ra rn rc args) :
  Calls Tryz.prog 195 #[pV op tl ta tn tc ak an al aa am ac bk bn bl ba bm bc ra rn rc sg fl fa fm fc mu fn st nx el ps] w fun e w'=>(∃ a n cap,e=.returned (.slice a n cap)∧OL w' a n cap (opsL op qa qb args))∧Below w.heap.size w w':=by
 have K1:=fun W=>has_any op 1 (by omega) 2 rfl W _ rfl
 have K2:=fun W=>has_any op 2 (by omega) 4 rfl W _ rfl
 have K3:=fun W=>has_any op 3 (by omega) 8 rfl W _ rfl
 obtain ⟨V,hV⟩:∃ V,V=w.alloc (pO op tl ta tn tc ak an al aa am ac bk bn bl ba bm bc ra rn rc sg fl fa fm fc mu fn st nx el ps):=⟨_,rfl⟩
 have HP:Hid (At V w.heap.size (pO op tl ta tn tc ak an al aa am ac bk bn bl ba bm bc ra rn rc sg fl fa fm fc mu fn st nx el ps)):=by rw [hV];exact At.new _ _
 have HV:Hid (Below w.heap.size w V):=by rw [hV];exact belA bR
 have HZ:Hid (V.heap.size=w.heap.size+1):=by rw [hV];show (w.alloc _).heap.size=_;simp
 have HA:=jH hA
 have HB:=jH hB
 have HR:=jH hR
 obtain ⟨i62,hi62,hz62,hs62,hb62⟩:=info_parts Tryz.info115
 clear hA hB hR
 unfold opsL
 rcases ops_bits op with ⟨e1,e2,e3⟩|⟨e1,e2,e3⟩|⟨e1,e2,e3⟩|⟨e1,e2,e3⟩ <;> rw [e1] at K1 ⊢ <;> rw [e2] at K2 ⊢ <;> rw [e3] at K3 ⊢ <;> (have C1:=jH K1;have C2:=jH K2;have C3:=jH K3;clear K1 K2 K3 e1 e2 e3) <;> simp only [Bool.false_eq_true,if_false,if_true,List.append_nil,List.nil_append,List.cons_append]
 ·obtain ⟨c0,c1,c2,c3,c4,c5,c6,c7,c8,c9,c10,c11,c12,c13,c14,c15,c16,c17,c18,c19,c20⟩:=HP.out.pt
  clear c1 c2 c3 c4 c5 c6 c7 c8 c9 c10 c12 c13 c14 c15 c16 c17 c18 c19 c20
  go_enter Tryz.func195,Tryz.ntmps195
  go_upto_region 1 with fail
  rw [← hV]
  clear hV
  go_wp2_with (first
   | (go_at_call 192;with_reducible refine (C1.out _).mono ?_;rintro e w1 ⟨rfl,hw⟩;replace hw:=hw.symm;subst hw)
   | (go_at_call 192;with_reducible refine (C2.out _).mono ?_;rintro e w1 ⟨rfl,hw⟩;replace hw:=hw.symm;subst hw)
   | (go_at_call 192;with_reducible refine (C3.out _).mono ?_;rintro e w1 ⟨rfl,hw⟩;replace hw:=hw.symm;subst hw))
  go_ret
  exact ⟨⟨_,_,_,rfl,OL.nul _⟩,HV.out⟩
 ·have HO:Hid (At (V.alloc (oO ak an al aa am ac)) V.heap.size (oO ak an al aa am ac)):=At.new _ _
  obtain ⟨c0,c1,c2,c3,c4,c5,c6,c7,c8,c9,c10,c11,c12,c13,c14,c15,c16,c17,c18,c19,c20⟩:=HP.out.pt
  clear c1 c2 c7 c8 c9 c10 c12 c13 c14 c15 c16 c17 c18 c19 c20
  go_enter Tryz.func195,Tryz.ntmps195
  go_upto_region 1 with fail
  rw [← hV]
  clear hV
  go_wp2_with (first
   | (go_at_call 192;with_reducible refine (C1.out _).mono ?_;rintro e w1 ⟨rfl,hw⟩;replace hw:=hw.symm;subst hw)
   | (go_at_call 192;with_reducible refine (C2.out _).mono ?_;rintro e w1 ⟨rfl,hw⟩;replace hw:=hw.symm;subst hw)
   | (go_at_call 192;with_reducible refine (C3.out _).mono ?_;rintro e w1 ⟨rfl,hw⟩;replace hw:=hw.symm;subst hw)
   | (at_builtin;refine wpList_append_own _ rfl (.tmp 7) (.tmp 10) 116 rfl w.heap.size 115 i62 (.agg #[.int .u8 0,.int .i64 0,.int .i64 0,.slice none 0 0]) 4 48 Tryz.underlying116 hi62 hz62 hs62 hb62 rfl (by omega) (.slice none 0 0) 0 [] rfl (World.ownsRow_nil _ _ _ _) ⟨V.heap.size,0,none⟩ 1 1 (o4 ⟨ak,an,⟨al,aa,am,ac⟩⟩) rfl rfl (c4_new HO.out) (c4_ones _) (by unfold maxLen;omega) (by omega) (by have:=HV.out.size;simp;omega) ?_;intro v3 w3 ho3 hg3 hn3;have HN3:=jH ho3;have HB3:Hid (Below w.heap.size w w3):=jH (bel_nil (belA HV.out) hg3 (by have:=HV.out.size;simp;omega));have HP3:Hid (At w3 w.heap.size (pO op tl ta tn tc ak an al aa am ac bk bn bl ba bm bc ra rn rc sg fl fa fm fc mu fn st nx el ps)):=jH ((HP.out.alloc _).grown hg3 (by simp [Value.ownBlock]));obtain ⟨a3,cap3,rfl⟩:=own_sl ho3;clear ho3 hg3 hn3;obtain ⟨d0,d1,d2,d3,d4,d5,d6,d7,d8,d9,d10,d11,d12,d13,d14,d15,d16,d17,d18,d19,d20⟩:=HP3.out.pt;clear d1 d2 d3 d4 d5 d6 d12 d13 d14 d15 d16 d17 d18 d19 d20))
  go_ret
  exact ⟨⟨_,_,_,rfl,ol_of_row (vs:=[⟨ak,an,⟨al,aa,am,ac⟩⟩]) (os:=[qa]) HN3.out rfl rfl (by omega) (one_oat (HA.out.bel HB3.out))⟩,HB3.out⟩
 ·have HO:Hid (At (V.alloc (oO ak an al aa am ac)) V.heap.size (oO ak an al aa am ac)):=At.new _ _
  obtain ⟨c0,c1,c2,c3,c4,c5,c6,c7,c8,c9,c10,c11,c12,c13,c14,c15,c16,c17,c18,c19,c20⟩:=HP.out.pt
  clear c1 c2 c7 c8 c9 c10 c12 c13 c14 c15 c16 c17 c18 c19 c20
  go_enter Tryz.func195,Tryz.ntmps195
  go_upto_region 1 with fail
  rw [← hV]
  clear hV
  go_wp2_with (first
   | (go_at_call 192;with_reducible refine (C1.out _).mono ?_;rintro e w1 ⟨rfl,hw⟩;replace hw:=hw.symm;subst hw)
   | (go_at_call 192;with_reducible refine (C2.out _).mono ?_;rintro e w1 ⟨rfl,hw⟩;replace hw:=hw.symm;subst hw)
   | (go_at_call 192;with_reducible refine (C3.out _).mono ?_;rintro e w1 ⟨rfl,hw⟩;replace hw:=hw.symm;subst hw)
   | (at_builtin;refine wpList_append_own _ rfl (.tmp 7) (.tmp 10) 116 rfl w.heap.size 115 i62 (.agg #[.int .u8 0,.int .i64 0,.int .i64 0,.slice none 0 0]) 4 48 Tryz.underlying116 hi62 hz62 hs62 hb62 rfl (by omega) (.slice none 0 0) 0 [] rfl (World.ownsRow_nil _ _ _ _) ⟨V.heap.size,0,none⟩ 1 1 (o4 ⟨ak,an,⟨al,aa,am,ac⟩⟩) rfl rfl (c4_new HO.out) (c4_ones _) (by unfold maxLen;omega) (by omega) (by have:=HV.out.size;simp;omega) ?_;intro v3 w3 ho3 hg3 hn3;have HN3:=jH ho3;have HB3:Hid (Below w.heap.size w w3):=jH (bel_nil (belA HV.out) hg3 (by have:=HV.out.size;simp;omega));have HP3:Hid (At w3 w.heap.size (pO op tl ta tn tc ak an al aa am ac bk bn bl ba bm bc ra rn rc sg fl fa fm fc mu fn st nx el ps)):=jH ((HP.out.alloc _).grown hg3 (by simp [Value.ownBlock]));obtain ⟨a3,cap3,rfl⟩:=own_sl ho3;clear ho3 hg3 hn3;obtain ⟨d0,d1,d2,d3,d4,d5,d6,d7,d8,d9,d10,d11,d12,d13,d14,d15,d16,d17,d18,d19,d20⟩:=HP3.out.pt;clear d1 d2 d3 d4 d5 d6 d12 d13 d14 d15 d16 d17 d18 d19 d20)
   | (at_builtin;refine wpList_append_own _ rfl (.tmp 15) (.tmp 18) 116 rfl w.heap.size 115 i62 (.agg #[.int .u8 0,.int .i64 0,.int .i64 0,.slice none 0 0]) 4 48 Tryz.underlying116 hi62 hz62 hs62 hb62 rfl (by omega) (.slice a3 (0+1) cap3) (0+1) ([]++o4 ⟨ak,an,⟨al,aa,am,ac⟩⟩) rfl (own_bel HN3.out (belA bR)) ⟨w3.heap.size,0,none⟩ 1 1 (o4 ⟨bk,bn,⟨bl,ba,bm,bc⟩⟩) rfl rfl (c4_new (At.new w3 _)) (c4_ones _) (by unfold maxLen;omega) (by omega) (by have:=HB3.out.size;simp;omega) ?_;intro v4 w4 ho4 hg4 hn4;have HN4:=jH ho4;have HB4:Hid (Below w.heap.size w w4):=jH (Below.grown (belA HB3.out) hg4 (by have:=HB3.out.size;simp;omega) (own_lo HN3.out));have HP4:Hid (At w4 w.heap.size (pO op tl ta tn tc ak an al aa am ac bk bn bl ba bm bc ra rn rc sg fl fa fm fc mu fn st nx el ps)):=jH ((HP3.out.alloc _).grown hg4 (own_ne (own_bel HN3.out (belA (o:=oO bk bn bl ba bm bc) bR)) (HP3.out.alloc _) (by decide)));obtain ⟨a4,cap4,rfl⟩:=own_sl ho4;clear ho4 hg4 hn4;obtain ⟨k0,k1,k2,k3,k4,k5,k6,k7,k8,k9,k10,k11,k12,k13,k14,k15,k16,k17,k18,k19,k20⟩:=HP4.out.pt;clear k1 k2 k3 k4 k5 k6 k7 k8 k9 k10 k12 k13 k14 k15 k16 k17 k18 k19 k20))
  go_ret
  exact ⟨⟨_,_,_,rfl,ol_of_row (vs:=[⟨ak,an,⟨al,aa,am,ac⟩⟩,⟨bk,bn,⟨bl,ba,bm,bc⟩⟩]) (os:=[qa,qb]) HN4.out rfl rfl (by omega) (two_oat (HA.out.bel HB4.out) (HB.out.bel HB4.out))⟩,HB4.out⟩
 ·obtain ⟨c0,c1,c2,c3,c4,c5,c6,c7,c8,c9,c10,c11,c12,c13,c14,c15,c16,c17,c18,c19,c20⟩:=HP.out.pt
  clear c1 c2 c3 c4 c5 c6 c7 c8 c9 c10 c12 c13 c14 c15 c16 c17 c18 c19 c20
  have HRL:Hid (rn=args.length):=HR.out.len
  have HRB:Hid (rn≤1100000):=HR.out.big
  cases ra with
  | none =>
   have e0:args=[]:=by
    by_cases h:args=[]
    ·exact h
    ·obtain ⟨g,off,vs,e,-⟩:=HR.out.cells h
     cases e
   subst e0
   have e1:rn=0:=HRL.out
   have e2:rc=0:=HR.out.nil rfl
   subst e1 e2
   go_enter Tryz.func195,Tryz.ntmps195
   go_upto_region 1 with fail
   rw [← hV]
   clear hV
   go_wp2_with (first
   | (go_at_call 192;with_reducible refine (C1.out _).mono ?_;rintro e w1 ⟨rfl,hw⟩;replace hw:=hw.symm;subst hw)
   | (go_at_call 192;with_reducible refine (C2.out _).mono ?_;rintro e w1 ⟨rfl,hw⟩;replace hw:=hw.symm;subst hw)
   | (go_at_call 192;with_reducible refine (C3.out _).mono ?_;rintro e w1 ⟨rfl,hw⟩;replace hw:=hw.symm;subst hw)
   | (at_builtin;refine wpList_append_own_none rfl (.tmp 23) (.tmp 25) 116 rfl w.heap.size 115 i62 4 Tryz.underlying116 hi62 (.slice none 0 0) 0 [] rfl (World.ownsRow_nil _ _ _ _) rfl ?_))
   go_ret
   exact ⟨⟨_,_,_,rfl,OL.nul _⟩,HV.out⟩
  | some ad =>
   obtain ⟨vs,hl,hc,ho⟩:=HR.out.news
   have HL:=jH hl
   have HC:=jH (hc V HV.out)
   have HOO:=jH ho
   clear hl hc ho
   go_enter Tryz.func195,Tryz.ntmps195
   go_upto_region 1 with fail
   rw [← hV]
   clear hV
   go_wp2_with (first
   | (go_at_call 192;with_reducible refine (C1.out _).mono ?_;rintro e w1 ⟨rfl,hw⟩;replace hw:=hw.symm;subst hw)
   | (go_at_call 192;with_reducible refine (C2.out _).mono ?_;rintro e w1 ⟨rfl,hw⟩;replace hw:=hw.symm;subst hw)
   | (go_at_call 192;with_reducible refine (C3.out _).mono ?_;rintro e w1 ⟨rfl,hw⟩;replace hw:=hw.symm;subst hw)
   | (at_builtin;refine wpList_append_own _ rfl (.tmp 23) (.tmp 25) 116 rfl w.heap.size 115 i62 (.agg #[.int .u8 0,.int .i64 0,.int .i64 0,.slice none 0 0]) 4 48 Tryz.underlying116 hi62 hz62 hs62 hb62 rfl (by omega) (.slice none 0 0) 0 [] rfl (World.ownsRow_nil _ _ _ _) ad rn rc (oCells vs) rfl (by rw [oCells_len,HL.out,← HRL.out]) HC.out (oCells_ones _) (by unfold maxLen;have:=HRB.out;omega) (by have:=HRB.out;omega) (by have:=HV.out.size;omega) ?_;intro v3 w3 ho3 hg3 hn3;have HN3:=jH ho3;have HB3:Hid (Below w.heap.size w w3):=jH (bel_nil HV.out hg3 (by have:=HV.out.size;omega));obtain ⟨a3,cap3,rfl⟩:=own_sl ho3;clear ho3 hg3 hn3))
   go_ret
   have hN:=HN3.out
   simp only [Nat.zero_add,List.nil_append] at hN
   refine ⟨⟨_,_,_,rfl,ol_of_row (vs:=vs) (os:=args) hN (by simpa using HRL.out) HL.out (by simpa using HRB.out) (fun i v o hv hq=>?_)⟩,HB3.out⟩
   exact (HOO.out i v o hv hq).bel HB3.out
def t5 (f:Fv):List Value:=[.int .u8 (f.k:Int),.bool f.m,.int .i64 f.r,.int .i64 f.s,.slice f.a f.n f.cap]
def tCells:List Fv→List Value
 | []=>[]
 | f::l=>t5 f++tCells l
theorem tCells_len:∀ l:List Fv,(tCells l).length=l.length*5
 | []=>rfl
 | f::l=>by
  have:=tCells_len l
  simp only [tCells,List.length_append,this,List.length_cons]
  show 5+l.length*5=_
  omega
theorem tCells_snoc:∀ (l:List Fv) (f:Fv),tCells (l++[f])=tCells l++t5 f
 | [],f=>by simp [tCells]
 | g::l,f=>by
  have:=tCells_snoc l f
  simp only [List.cons_append,tCells,this,List.append_assoc]
theorem tCells_at:∀ (l:List Fv) (i:Nat) (f:Fv),l[i]?=some f→∀ k,k<5→(tCells l)[i*5+k]?=(t5 f)[k]?
 | [],i,f,h,_,_=>by simp at h
 | g::l,0,f,h,k,hk=>by
  simp at h
  subst h
  simp only [tCells,Nat.zero_mul,Nat.zero_add]
  exact List.getElem?_append_left (by simpa [t5] using hk)
 | g::l,i+1,f,h,k,hk=>by
  have:=tCells_at l i f (by simpa using h) k hk
  simp only [tCells]
  rw [List.getElem?_append_right (by simp [t5];omega)]
  rw [show (i+1)*5+k - (t5 g).length=i*5+k by simp [t5];omega]
  exact this
theorem c5_ones (f:Fv):∀ u∈t5 f,u.oneCell'=true:=fun u hu=>by
 simp only [t5,List.mem_cons,List.not_mem_nil,or_false] at hu
 rcases hu with rfl|rfl|rfl|rfl|rfl <;> rfl
theorem c5_new {W:World} {b:Nat} {f:Fv} (h:At W b f.o):∀ j u,(t5 f)[j]?=some u→W.cell? ((⟨b,0,none⟩:Addr).add j)=some u:=fun j u hu=>by
 unfold At at h
 match j,hu with
 | 0,hu=>simp [t5] at hu;subst hu;simp [Addr.add,World.cell?,h]
 | 1,hu=>simp [t5] at hu;subst hu;simp [Addr.add,World.cell?,h]
 | 2,hu=>simp [t5] at hu;subst hu;simp [Addr.add,World.cell?,h]
 | 3,hu=>simp [t5] at hu;subst hu;simp [Addr.add,World.cell?,h]
 | 4,hu=>simp [t5] at hu;subst hu;simp [Addr.add,World.cell?,h]
 | j+5,hu=>simp [t5] at hu
theorem lc_of_row {W:World} {B n cap:Nat} {a:Option Addr} {fs:List Fv} {ts:List Ty} (h:W.ownsRow B 43 5 (.slice a n cap) n (tCells fs)) (hn:n=ts.length) (hl:fs.length=ts.length) (hb:n≤maxLen) (ho:∀ (i:Nat) (f:Fv) (t:Ty),fs[i]?=some f→ts[i]?=some t→TyAt W f t):LcAt W a n cap ts:=by
 refine ⟨hn,hb,fun hne=>?_⟩
 have hpos:0<ts.length:=List.length_pos_iff.2 hne
 obtain ⟨g,cap',e0⟩:=own_is h (by omega)
 cases e0
 refine ⟨g,0,rfl,fun i t hi=>?_⟩
 have hlt:i<ts.length:=(List.getElem?_eq_some_iff.1 hi).1
 obtain ⟨f,hf⟩:∃ f,fs[i]?=some f:=⟨_,List.getElem?_eq_getElem (by omega)⟩
 have at_:=fun k hk=>tCells_at fs i f hf k hk
 rw [Nat.zero_add]
 exact ⟨f,⟨(own_cell h ((at_ 0 (by omega)).trans rfl)).2,(own_cell h ((at_ 0 (by omega)).trans rfl)).1,(own_cell h ((at_ 1 (by omega)).trans rfl)).1,(own_cell h ((at_ 2 (by omega)).trans rfl)).1,(own_cell h ((at_ 3 (by omega)).trans rfl)).1,(own_cell h ((at_ 4 (by omega)).trans rfl)).1⟩,ho i f t hf hi⟩
theorem Tryz.info43:(Tryz.prog.info? 43).map (fun i=>(i.zero,i.size,i.bytes))=some (some (.agg #[.int .u8 0,.bool false,.int .i64 0,.int .i64 0,.slice none 0 0]),5,48):=by kernel_rfl
structure SX (w0:World) (a:Option Addr) (n cap:Nat) (la:Option Addr) (ln lcap:Nat) (x:Sc):Prop where
 sf:SF w0 a n cap x.fc
 lf:LF w0 la ln lcap n x.cl
 fok:∀ j,j<n→∀ c∈x.fc j,Ok c
 lok:∀ c∈x.cl,Ok c
theorem SX.bel {w w':World} {a la:Option Addr} {n cap ln lcap:Nat} {x:Sc} (h:SX w a n cap la ln lcap x) (hb:Below w.heap.size w w'):SX w' a n cap la ln lcap x:=⟨h.sf.bel hb,h.lf.bel hb,h.fok,h.lok⟩
theorem wayC_ok {w0:World} {a la:Option Addr} {n cap ln lcap:Nat} {x:Sc} (h:SX w0 a n cap la ln lcap x):∀ (p:List Int) (c d:Ch) (gs:List Int),c.ok n→Ok c→wayC x.fc c p=some (d,gs)→d.ok n∧Ok d
 | [],c,d,gs,h1,h2,e=>by simp [wayC] at e;obtain ⟨rfl,-⟩:=e;exact ⟨h1,h2⟩
 | s::p,c,d,gs,h1,h2,e=>by
  simp only [wayC] at e
  cases hs:stepC x.fc c s with
  | none=>rw [hs] at e;cases e
  | some z =>
   obtain ⟨c1,g1⟩:=z
   rw [hs] at e
   simp only [Option.bind_some,Option.map_eq_some_iff] at e
   obtain ⟨y,hy,e2⟩:=e
   obtain ⟨d1,gs1⟩:=y
   cases e2
   have k1:=(stepC_ok h.sf h1 hs).1
   refine wayC_ok h p c1 d1 gs1 k1 ?_ hy
   cases c with
   | leaf k sn =>
    rw [stepC_leaf] at hs
    split at hs
    ·rename_i hk
     rw [Option.map_eq_some_iff] at hs
     obtain ⟨y,hy2,e3⟩:=hs
     cases e3
     have hk5:(k=1∨k=2)∧sn=0∨k=5∧0≤sn∧sn<n:=h1
     exact h.fok sn.toNat (by omega) _ (List.mem_of_getElem? hy2)
    ·cases hs
   | box c =>
    rw [stepC_box] at hs
    split at hs
    ·cases hs;exact ⟨h2.ok,by have:=h2.deep;simp [Ch.depth] at this;omega⟩
    ·cases hs
   | ref m r c =>
    rw [stepC_ref] at hs
    split at hs
    ·cases hs;exact ⟨h2.ok.2,by have:=h2.deep;simp [Ch.depth] at this;omega⟩
    ·cases hs
theorem SX.way {w0:World} {a la:Option Addr} {n cap ln lcap:Nat} {x:Sc} (h:SX w0 a n cap la ln lcap x) {p:Plc} {y:Ch × List Int} (e:x.way p=some y):y.1.ok n∧Ok y.1:=by
 unfold Sc.way wayP at e
 split at e
 ·cases hc:x.cl[p.l.toNat]? with
  | none=>rw [hc] at e;cases e
  | some c =>
   rw [hc] at e
   have hm:=List.mem_of_getElem? hc
   exact wayC_ok h p.p c y.1 y.2 (h.lf.ok c hm) (h.lok c hm) e
 ·cases e
theorem SX.opT {w0:World} {a la:Option Addr} {n cap ln lcap:Nat} {x:Sc} (h:SX w0 a n cap la ln lcap x) {o:Opd} {c:Ch} (e:x.opT o=some c):c.ok n∧Ok c:=by
 unfold Sc.opT at e
 split at e
 ·split at e
  ·cases e;exact ⟨.inl ⟨.inl rfl,rfl⟩,⟨.inl ⟨.inl rfl,rfl⟩,by simp [Ch.depth]⟩⟩
  ·cases e
 ·split at e
  ·split at e
   ·cases e;exact ⟨.inl ⟨.inr rfl,rfl⟩,⟨.inl ⟨.inr rfl,rfl⟩,by simp [Ch.depth]⟩⟩
   ·cases e
  ·split at e
   ·cases hw:x.way o.pl with
    | none=>rw [hw] at e;cases e
    | some y =>
     rw [hw,Option.bind_some] at e
     split at e
     ·cases e;exact h.way hw
     ·cases e
   ·split at e
    ·cases hw:x.way o.pl with
     | none=>rw [hw] at e;cases e
     | some y =>
      rw [hw,Option.bind_some] at e
      split at e
      ·cases e;exact h.way hw
      ·cases e
    ·cases e
theorem opsT_snoc (x:Sc):∀ (l:List Opd) (o:Opd),x.opsT (l++[o])=(x.opsT l).bind fun cs=>(x.opT o).map fun c=>cs++[c]
 | [],o=>by simp [Sc.opsT];cases x.opT o <;> rfl
 | q::l,o=>by
  have:=opsT_snoc x l o
  simp only [List.cons_append,Sc.opsT,this]
  cases x.opT q <;> simp
  cases x.opsT l <;> simp
  cases x.opT o <;> simp
theorem opsT_none (x:Sc):∀ {l:List Opd} {o:Opd},o∈l→x.opT o=none→x.opsT l=none
 | q::l,o,h,e=>by
  rcases List.mem_cons.1 h with rfl|h1
  ·simp [Sc.opsT,e]
  ·simp only [Sc.opsT,opsT_none x h1 e]
   cases x.opT q <;> rfl
theorem opsT_len (x:Sc):∀ {l:List Opd} {cs:List Ch},x.opsT l=some cs→cs.length=l.length
 | [],cs,h=>by simp [Sc.opsT] at h;subst h;rfl
 | q::l,cs,h=>by
  simp only [Sc.opsT] at h
  cases hq:x.opT q with
  | none=>rw [hq] at h;cases h
  | some c =>
   rw [hq,Option.bind_some,Option.map_eq_some_iff] at h
   obtain ⟨ds,hd,rfl⟩:=h
   simp [opsT_len x hd]
theorem SX.opsT {w0:World} {a la:Option Addr} {n cap ln lcap:Nat} {x:Sc} (h:SX w0 a n cap la ln lcap x):∀ {l:List Opd} {cs:List Ch},x.opsT l=some cs→∀ c∈cs,c.ok n∧Ok c
 | [],cs,e=>by simp [Sc.opsT] at e;subst e;simp
 | q::l,cs,e=>by
  simp only [Sc.opsT] at e
  cases hq:x.opT q with
  | none=>rw [hq] at e;cases e
  | some c =>
   rw [hq,Option.bind_some,Option.map_eq_some_iff] at e
   obtain ⟨ds,hd,rfl⟩:=e
   intro d hd2
   rcases List.mem_cons.1 hd2 with rfl|h1
   ·exact h.opT hq
   ·exact h.opsT hd d h1
theorem typeOf_any {w0 w:World} (hB0:Below w0.heap.size w0 w) {a la:Option Addr} {n cap ln lcap:Nat} {x:Sc} (hX:SX w0 a n cap la ln lcap x) (b:Nat) (hb:Scs w b a n cap la ln lcap) (v:Ov) (q:Opd) (hq:OAt w v q) :
  Calls Tryz.prog 215 #[.pointer (some ⟨b,0,none⟩),v.v] w fun e w'=>TyPost (x.opT q) w0 e∧Below w.heap.size w w':=by
 have cw:∀ W,Below w.heap.size w W→Calls Tryz.prog 193 #[.pointer (some ⟨b,0,none⟩),plV v.x.l v.x.a v.x.n v.x.cap] W fun e w'=>GwPost (x.way q.pl) w0 e∧Below W.heap.size W w':=fun W hW =>
  wayG_any (jB hB0 hW) hX.sf hX.lf b (hb.bel hW) (hq.p.bel hW) _ (by unfold Sc.way;rw [hq.l])
 have hok:∀ y,x.way q.pl=some y→Ok y.1:=fun y e=>(hX.way e).2
 have hlen:v.x.n=q.pl.p.length:=hq.p.row.len
 obtain ⟨k,nn,pt⟩:=v
 obtain ⟨l,pa,m,pc⟩:=pt
 obtain ⟨qk,qn,qp⟩:=q
 have e1:k=qk:=hq.k
 have e2:nn=qn:=hq.n
 have e3:l=qp.l:=hq.l
 have e4:m=qp.p.length:=hlen
 subst e1 e2
 match k,hq with
 | 0,_=>exact typeOf_x w0 w b 0 nn l pa m pc (by omega)
 | 1,_=>exact typeOf_1 w0 w b nn l pa m pc _ (by show (if noPlc qp then some (Ch.leaf 1 0) else none)=_;unfold noPlc;rw [e3,e4])
 | 2,_=>exact typeOf_2 w0 w b nn l pa m pc _ (by show (if noPlc qp && (decide (nn=0) || decide (nn=1)) then some (Ch.leaf 2 0) else none)=_;unfold noPlc;rw [e3,e4])
 | 3,_=>exact typeOf_3 w0 w hB0 b nn l pa m pc (x.way qp) cw hok _ rfl
 | 4,_=>exact typeOf_4 w0 w hB0 b nn l pa m pc (x.way qp) cw hok _ rfl
 | k+5,_=>exact typeOf_x w0 w b (k+5) nn l pa m pc (by omega)
end Go.Proofs.YtmjenlogbkbgnaaGreatDoor
