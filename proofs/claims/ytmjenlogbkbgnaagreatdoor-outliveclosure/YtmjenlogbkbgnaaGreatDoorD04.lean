import Derived.Test.YtmjenlogbkbgnaaGreatDoorD03
import Derived.Test.YtmjenlogbkbgnaaGreatDoorC04
import Derived.Laws.CopyOwn
import Derived.RangeFuncFrom
namespace Go.Proofs.YtmjenlogbkbgnaaGreatDoor
open Go.RowKit Go.Shelf
set_option linter.unusedVariables false
set_option linter.unusedSimpArgs false
set_option maxRecDepth 100000
set_option maxHeartbeats 8000000
theorem bWidth_yes (x:Int) (w:World) (h0:0≤x) (h1:x≤1032):Calls Tryz.prog 155 #[.int .i64 x] w fun e w'=>e=.returned (.bool true)∧w'=w:=by
 go_enter Tryz.func155,Tryz.ntmps155
 go_wp2
 go_ret;exact ⟨by simp,rfl⟩
theorem bCount_any (x:Int) (w:World) (h0:0≤x) (h1:x≤1032):Calls Tryz.prog 156 #[.int .i64 x] w fun e w'=>e=.returned (.int .i64 ((x+63) / 64))∧w'=w:=by
 have hq:(x+64 - 1).tdiv 64=(x+63) / 64:=by rw [Int.tdiv_eq_ediv_of_nonneg (by omega)];congr 1;omega
 go_enter Tryz.func156,Tryz.ntmps156
 go_wp2
 go_ret
 exact ⟨by simp,rfl⟩
theorem bMay_yes (r:Rw) (w:World) (h:RwAt w r) (hy:mayR r.x r.zs=true):Calls Tryz.prog 130 #[r.v] w fun e w'=>e=.returned (.bool true)∧Below w.heap.size w w':=by
 have HA:=jH (At.new w r.o)
 obtain ⟨c0,c1⟩:=HA.out.rwo
 have hc:=h.c.bel (belA (Below.refl w.heap.size w) (o:=r.o))
 have hw:=h.wd
 obtain ⟨h0,h1,hn⟩:=mayR_len hy
 obtain ⟨x,a,cap,zs⟩:=r
 simp only at h0 h1 c0 c1 hn hc hw hy
 have hb:zs.length≤100:=by omega
 have hne:((zs.length:Int) == (x+63) / 64)=true:=by simpa using hn
 have hne':((zs.length:Int) != (x+63) / 64)=false:=by simpa using hn
 by_cases hm:x % 64=0
 ·have hr:x.tmod 64=0:=by rw [Int.tmod_eq_emod_of_nonneg (by omega)];exact hm
  clear h hn hw hy hc
  go_enter Tryz.func130,Tryz.ntmps130
  go_wp2_with fail
  go_quiet ((first|(go_at_call 155;exact Calls.quiet_of_same (bWidth_yes _ _ h0 h1))|(go_at_call 156;exact Calls.quiet_of_same (bCount_any _ _ h0 h1))))
  go_wp2_with fail
  go_ret
  exact ⟨rfl,below_drewN (belA bR) _⟩
 ·have hl1:1≤zs.length:=by omega
  obtain ⟨g,off,rfl,hg,hcc⟩:=hc (by intro hh;simp [hh] at hl1)
  obtain ⟨z,hz⟩:∃ z,zs[zs.length - 1]?=some z:=⟨_,List.getElem?_eq_getElem (by omega)⟩
  have cz:=hcc _ _ hz
  have hzd:zs.getD (zs.length - 1) 0=z:=by simp [hz]
  have hz9:(z / 2 ^ (x % 64).toNat == 0)=true:=by
   have:=hy
   unfold mayR at this
   rw [hzd] at this
   simp [hm] at this
   simpa using this.2
  have hto:((zs.length:Int) - 1).toNat=zs.length - 1:=by omega
  have i0:(0:Int)≤(zs.length:Int) - 1:=by omega
  have i1:(zs.length:Int) - 1<(zs.length:Int):=by omega
  obtain ⟨u,hu⟩:∃ u,u=x % 64:=⟨_,rfl⟩
  have hr:x.tmod 64=u:=by rw [Int.tmod_eq_emod_of_nonneg (by omega),hu]
  have hu0:(u == 0)=false:=by rw [hu];simpa using hm
  have u0:0≤u:=by omega
  have u1:u<64:=by omega
  rw [← hu] at hz9
  clear h hn hw hcc hz hzd hu hm hy hc
  go_enter Tryz.func130,Tryz.ntmps130
  go_wp2_with fail
  go_quiet ((first|(go_at_call 155;exact Calls.quiet_of_same (bWidth_yes _ _ h0 h1))|(go_at_call 156;exact Calls.quiet_of_same (bCount_any _ _ h0 h1))))
  go_wp2_with fail
  go_ret
  exact ⟨by simp,below_drewN (belA bR) _⟩
def Uw (z:Int):Value:=.int .u64 z
def WBlk (w:World) (g:Nat) (zs:List Int):Prop:=w.heap[g]?=some (.cells (zs.map Uw).toArray 144 (0,0))
theorem WBlk.at_ {w:World} {g:Nat} {zs:List Int} (h:WBlk w g zs):At w g (.cells (zs.map Uw).toArray 144 (0,0)):=h
theorem WBlk.bel {w w':World} {g:Nat} {zs:List Int} (h:WBlk w g zs) (hb:Below w.heap.size w w'):WBlk w' g zs:=(hb.block g (lt_of_block h)).trans h
theorem WBlk.cell {w:World} {g:Nat} {zs:List Int} (h:WBlk w g zs) (i:Nat) (hi:i<zs.length):w.cell? ⟨g,i,none⟩=some (.int .u64 (zs.getD i 0)):=by
 unfold WBlk at h
 simp [World.cell?,h,hi,Uw]
theorem WBlk.cells {w:World} {g:Nat} {zs:List Int} (h:WBlk w g zs):WCells w (some ⟨g,0,none⟩) zs:=fun _ =>
 ⟨g,0,rfl,lt_of_block h,fun i z hi=>by
  obtain ⟨hl,he⟩:=List.getElem?_eq_some_iff.1 hi
  have:=h.cell i hl
  simpa [hl,he] using this⟩
theorem Tryz.info144:(Tryz.prog.info? 144).map (fun i=>(i.zero,i.size,i.bytes))=some (some (.int .u64 0),1,8):=by kernel_rfl
theorem Tryz.size144:(Tryz.prog.info? 144).map (·.size)=some 1:=by kernel_rfl
theorem wblk_made {w:World} {base g n:Nat} (h:w.ownsRow base 144 1 (.slice (some ⟨g,0,none⟩) n n) n (madeCells (Value.int .u64 0).cells (n*1)).toList):WBlk w g (List.replicate n 0):=by
 rcases h.2 with ⟨h',_⟩|⟨g',cap',cur,h',_,hg,_,_,hs,htake⟩
 ·simp at h'
 ·simp only [Value.slice.injEq,Option.some.injEq,Addr.mk.injEq,and_true,true_and] at h'
  obtain ⟨rfl,rfl⟩:=h'
  have hc:(Value.int IntKind.u64 0).cells=#[Value.int IntKind.u64 0]:=rfl
  rw [hc,toList_madeCells_one,List.take_of_length_le (by simp;omega)] at htake
  unfold WBlk
  rw [hg,List.map_replicate]
  congr 2
  apply Array.toList_inj.1
  rw [htake];simp [Uw]
theorem wsplice_all {α:Type} (L cs:List α) (h:cs.length=L.length):splice L 0 cs=cs:=by simp [splice,h]
theorem uw_one (zs:List Int):∀ u∈zs.map Uw,u.oneCell'=true:=ints_oneCell .u64 zs
theorem wlen_min {zs:List Int} {n:Nat} (hz:zs.length=n):(zs.map Uw).length=Nat.min n n:=by rw [List.length_map,hz];exact (Nat.min_self n).symm
theorem wcopy_pos {w:World} {a:Option Addr} {zs:List Int} {g:Nat} (h:WCells w a zs):0<(zs.map Uw).length→some (⟨g,0,none⟩:Addr)=some ⟨g,0,none⟩∧∃ ad,a=some ad∧∀ j v,(zs.map Uw)[j]?=some v→w.cell? (ad.add j)=some v:=by
 intro hp
 obtain ⟨b,off,rfl,_,hc⟩:=h (by intro hh;subst hh;simp at hp)
 refine ⟨rfl,_,rfl,fun j v hj=>?_⟩
 obtain ⟨hl,he⟩:=List.getElem?_eq_some_iff.1 hj
 simp at hl he
 rw [Addr.add_lit,hc j _ (List.getElem?_eq_getElem hl),← he]
 rfl
abbrev Rw.own (r:Rw) (g:Nat):Rw:=⟨r.x,some ⟨g,0,none⟩,r.zs.length,r.zs⟩
theorem At.rw3 {W:World} {b:Nat} {r:Rw} (h:At W b r.o):W.cell? ⟨b,0,none⟩=some (.int .i64 r.x)∧W.cell? ⟨b,1,none⟩=some (.slice r.a r.zs.length r.cap)∧(∀ o,W.frozen? ⟨b,o,none⟩=false):=by
 refine ⟨h.rwo.1,h.rwo.2,fun o=>?_⟩
 unfold At at h
 exact frozen_of_row W b o _ 48 h
abbrev Rz:Obj:=.cells #[.int .i64 0,.slice none 0 0] 48
theorem At.rz {W:World} {b:Nat} (h:At W b Rz):W.cell? ⟨b,0,none⟩=some (.int .i64 0)∧W.cell? ⟨b,1,none⟩=some (.slice none 0 0)∧(∀ o,W.frozen? ⟨b,o,none⟩=false):=by
 unfold At at h
 exact ⟨by simp [World.cell?,h],by simp [World.cell?,h],fun o=>frozen_of_row W b o _ 48 h⟩
theorem below_setTwo {B:Nat} {w0 w:World} (h:Below B w0 w) {b:Nat} (hb:B≤b) (p q:Value):Below B w0 ((w.setCell ⟨b,0,none⟩ p).setCell ⟨b,1,none⟩ q):=(h.setCell hb _).setCell hb _
theorem bOwn_yes (r:Rw) (w:World) (h:RwAt w r) (hy:mayR r.x r.zs=true) :
  Calls Tryz.prog 100 #[r.v] w fun e w'=>∃ g,e=.returned (.tuple #[(r.own g).v,.int .i64 0])∧w.heap.size≤g∧WBlk w' g r.zs∧Below w.heap.size w w':=by
 have HB:Hid (Below w.heap.size w ((w.alloc r.o).alloc Rz)):=jH (belA (belA bR))
 have H1:=jH (h.bel HB.out)
 have C1:=jH (bMay_yes r _ (h.bel HB.out) hy)
 have b1:=jH ((At.new w r.o).alloc Rz)
 have b2:=jH (at_snd w r.o Rz)
 obtain ⟨h0,h1,hn⟩:=mayR_len hy
 have HY:=jH hy
 obtain ⟨x,a,cap,zs⟩:=r
 simp only at h0 h1 hn
 obtain ⟨n,hz⟩:∃ n,zs.length=n:=⟨_,rfl⟩
 rw [hz] at hn
 have hm:n≤100:=by omega
 have HZ:=jH hz
 simp only [Rw.v,Rw.o,Rw.own,hz] at HB H1 C1 b1 b2 ⊢
 obtain ⟨i0,hi,hz0,hz1,hz2⟩:=info_parts Tryz.info144
 clear h hy hz hn
 go_enter Tryz.func100,Tryz.ntmps100
 go_wp2_with (first
  | (go_at_call 130;refine C1.out.mono ?_;rintro e w1 ⟨rfl,hb1⟩;have HB1:=jH hb1;have b11:=jH (b1.out.below hb1);have b21:=jH (b2.out.below hb1);have HC1:=jH (H1.out.c.bel hb1);obtain ⟨c10,c11,f1⟩:=At.rw3 (r:=⟨x,a,cap,zs⟩) (by simp only [Rw.o,HZ.out];exact b11.out);simp only [HZ.out] at c10 c11;clear hb1)
  | (at_make;refine wpList_make_full _ rfl _ _ 46 rfl w1.heap.size 144 i0 (.int .u64 0) 1 Tryz.underlying46 hi hz0 hz1 .i64 .i64 _ _ n rfl rfl rfl rfl (by rw [hz2];omega) (by unfold maxLen;omega) (Nat.le_refl _) ?_;intro w2 hown2 hgrow2;have HM:WBlk w2 w1.heap.size (List.replicate n 0):=wblk_made hown2;have hb2:=below_of_grown hgrow2;clear hown2 hgrow2;have b12:=b11.out.below hb2;have b22:=b21.out.below hb2;have HC2:=HC1.out.bel hb2;obtain ⟨d10,d11,g1⟩:=At.rw3 (r:=⟨x,a,cap,zs⟩) (by simp only [Rw.o,HZ.out];exact b12);simp only [HZ.out] at d10 d11;clear c10 c11 f1)
  | (have _hm:=HM;clear _hm;refine wpList_copy_splice rfl _ _ 46 46 rfl 144 Tryz.underlying46 Tryz.size144 _ _ n n n cap rfl rfl w1.heap.size 0 ((List.replicate n 0).map Uw) 144 HM (zs.map Uw) (wlen_min HZ.out) (wcopy_pos HC2) (by simp [HZ.out]) (uw_one zs) w1.heap.size w1 hb2 (Nat.le_refl _) ?_;clear HM d10 d11 g1 b12 b22;intro w3 HG3 hb3;have b13:=b11.out.belowB hb3 b11.out.lt;have b23:=b21.out.belowB hb3 b21.out.lt;have HN:=HG3.out;rw [wsplice_all _ _ (by simp [HZ.out])] at HN;have HN:WBlk w3 w1.heap.size zs:=HN;clear HG3;obtain ⟨e10,e11,k1⟩:=At.rw3 (r:=⟨x,a,cap,zs⟩) (by simp only [Rw.o,HZ.out];exact b13);simp only [HZ.out] at e10 e11;obtain ⟨e20,e21,k2⟩:=b23.rz))
 have hl1:=b21.out.lt
 have HBB:=(below2 HB1.out).trans (hb3.mono (below2 HB1.out).size)
 refine bodyPost_ret (v:=.tuple #[.agg #[.int .i64 x,.slice (some ⟨w1.heap.size,0,none⟩) n n],.int .i64 0]) (by simp [results,Tryz.results100,go_sem,e20,e21]) rfl ⟨w1.heap.size,by rfl,(below2 HB1.out).size,?_,?_⟩
 ·exact (HN.at_.set (by simp;omega) _).set (by simp;omega) _
 ·exact below_setTwo HBB (by omega) _ _
theorem below3 {w w1:World} {o1 o2 o3:Obj} (hb:Below (((w.alloc o1).alloc o2).alloc o3).heap.size (((w.alloc o1).alloc o2).alloc o3) w1):Below w.heap.size w w1 :=
 (((bR.alloc (Nat.le_refl _) o1).alloc (by simp) o2).alloc (by simp;omega) o3).trans (hb.mono (by simp;omega))
theorem beside_yes (r s:Rw) (w:World) (hr:RwAt w r) (hs:RwAt w s) (hx:s.x=r.x) (hy:mayR r.x r.zs=true) (hy2:mayR s.x s.zs=true) :
  Calls Tryz.prog 99 #[r.v,s.v] w fun e w'=>∃ g,e=.returned (.tuple #[(r.own g).v,.int .i64 0])∧w.heap.size≤g∧WBlk w' g r.zs∧Below w.heap.size w w':=by
 have HB:Hid (Below w.heap.size w (((w.alloc r.o).alloc s.o).alloc Rz)):=jH (belA (belA (belA bR)))
 have H1:=jH (hr.bel HB.out)
 have C2:=jH (bMay_yes s _ (hs.bel HB.out) hy2)
 have b1:=jH (((At.new w r.o).alloc s.o).alloc Rz)
 have b2:=jH ((at_snd w r.o s.o).alloc Rz)
 have b3:=At.new ((w.alloc r.o).alloc s.o) Rz
 simp only [World.size_alloc] at b3
 have b3:=jH b3
 have HY:=jH hy
 obtain ⟨rx,ra,rc,rz⟩:=r
 obtain ⟨sx,sa,sc,sz⟩:=s
 simp only at hx
 subst hx
 clear hr hs hy hy2
 go_enter Tryz.func99,Tryz.ntmps99
 go_wp2_with (first
  | (go_at_call 130;refine C2.out.mono ?_;rintro e w1 ⟨rfl,hb1⟩;have HB1:=jH hb1;have b11:=b1.out.below hb1;have b21:=b2.out.below hb1;have b31:=jH (b3.out.below hb1);have C3:=jH (bOwn_yes _ _ (H1.out.bel hb1) HY.out);obtain ⟨c10,c11,f1⟩:=b11.rw3;obtain ⟨c20,c21,f2⟩:=b21.rw3;simp only at c10 c11 c20 c21;clear hb1)
  | (go_at_call 100;refine C3.out.mono ?_;rintro e w2 ⟨g,rfl,hgw,hblk,hb2⟩;have b32:=b31.out.below hb2;obtain ⟨c30,c31,f3⟩:=b32.rz))
 have hB:=below3 HB1.out
 have hlt:=b31.out.lt
 refine bodyPost_ret (v:=.tuple #[(Rw.own ⟨sx,ra,rc,rz⟩ g).v,.int .i64 0]) (by simp [results,Tryz.results99,go_sem,c30,c31]) rfl ⟨g,by rfl,by have:=hB.size;omega,?_,?_⟩
 ·exact (hblk.at_.set (by simp;omega) _).set (by simp;omega) _
 ·exact below_setTwo (hB.trans (hb2.mono hB.size)) (by omega) _ _
def mixZ (zs:List Int) (k:Nat):List Int:=List.replicate k 0++zs.drop k
theorem mixZ_len (zs:List Int) {k:Nat} (h:k≤zs.length):(mixZ zs k).length=zs.length:=by simp [mixZ];omega
theorem mixZ_at (zs:List Int) {k:Nat} (h:k<zs.length):(mixZ zs k).getD k 0=zs.getD k 0:=by
 unfold mixZ
 rw [List.getD_eq_getElem?_getD,List.getElem?_append_right (by simp),List.getElem?_drop,List.getD_eq_getElem?_getD]
 simp
theorem mixZ_on (zs:List Int) {k:Nat} (h:k<zs.length):(mixZ zs k).set k 0=mixZ zs (k+1):=by
 unfold mixZ
 rw [List.set_append_right _ _ (by simp)]
 simp only [List.length_replicate,Nat.sub_self]
 rw [List.drop_eq_getElem_cons h,List.set_cons_zero,List.replicate_succ',List.append_assoc,List.singleton_append]
theorem mixZ_all (zs:List Int):mixZ zs zs.length=List.replicate zs.length 0:=by simp [mixZ]
theorem WBlk.set {w:World} {g:Nat} {zs:List Int} (h:WBlk w g zs) (k:Nat) (z:Int):WBlk (w.setCell ⟨g,k,none⟩ (.int .u64 z)) g (zs.set k z):=by
 unfold WBlk at *
 have h1:=heap_setCell_same w g k _ 144 (.int .u64 z) h
 rw [h1,List.map_set]
 simp [Uw]
theorem WBlk.frozen {w:World} {g:Nat} {zs:List Int} (h:WBlk w g zs) (i:Nat):w.frozen? ⟨g,i,none⟩=false:=frozen_of_row w g i _ 144 h
theorem less_zero (r s:Rw) (w:World) (hr:RwAt w r) (hs:RwAt w s) (hx:s.x=r.x) (hy:mayR r.x r.zs=true) (hy2:mayR s.x s.zs=true) (hk:lackB s.zs r.zs=false) :
  Calls Tryz.prog 82 #[r.v,s.v] w fun e w'=>∃ g,e=.returned (.tuple #[(r.own g).v,.int .i64 0])∧w.heap.size≤g∧WBlk w' g (List.replicate r.zs.length 0)∧Below w.heap.size w w':=by
 have HB:Hid (Below w.heap.size w (((w.alloc r.o).alloc s.o).alloc Rz)):=jH (belA (belA (belA bR)))
 have C1:=jH (beside_yes r s _ (hr.bel HB.out) (hs.bel HB.out) hx hy hy2)
 have S1:=jH (hs.bel HB.out)
 have b2:=jH ((at_snd w r.o s.o).alloc Rz)
 have b3:=At.new ((w.alloc r.o).alloc s.o) Rz
 simp only [World.size_alloc] at b3
 have b3:=jH b3
 obtain ⟨h0,h1,hn⟩:=mayR_len hy
 have hn2:=(mayR_len hy2).2.2
 have HK:=jH (lackB_iff.1 hk)
 have HOLD:Hid (∀ g off,s.a=some ⟨g,off,none⟩→s.zs≠[]→g<w.heap.size):=jH fun g off h1 h2=>by
  obtain ⟨g',off',h3,h4,_⟩:=hs.c h2
  rw [h1] at h3;simp at h3;omega
 obtain ⟨rx,ra,rc,rz⟩:=r
 obtain ⟨sx,sa,sc,sz⟩:=s
 simp only at hx h0 h1 hn hn2 HOLD
 subst hx
 have hl:sz.length=rz.length:=by omega
 have h17:rz.length≤100:=by omega
 obtain ⟨n,hzn⟩:∃ n,rz.length=n:=⟨_,rfl⟩
 have HZ:=jH hzn
 have HZ2:Hid (sz.length=n):=jH (hl.trans hzn)
 rw [hzn] at h17
 simp only [Rw.v,Rw.o,Rw.own,hzn,HZ2.out] at HB C1 S1 b2 b3 ⊢
 clear hr hs hy hy2 hk hn hn2 hl hzn h0 h1
 go_enter Tryz.func82,Tryz.ntmps82
 go_wp2_with (go_at_call 99;refine C1.out.mono ?_;rintro e w1 ⟨g,rfl,hgw,hblk,hb1⟩;simp only [HZ.out];have b2A:=(b2.out.below hb1).alloc (.cells #[.int .i64 sx,.slice (some ⟨g,0,none⟩) n n] 48);obtain ⟨c20,c21,f2⟩:=At.rw3 (r:=⟨sx,sa,sc,sz⟩) (by simp only [Rw.o,HZ2.out];exact b2A);simp only [HZ2.out] at c20 c21)
 simp only [World.size_alloc] at hgw
 have b31:=b3.out.below hb1
 have hgl:g<w1.heap.size:=lt_of_block hblk
 have hlt1:=b31.lt
 have b4A:=At.new w1 (.cells #[.int .i64 sx,.slice (some ⟨g,0,none⟩) n n] 48)
 have hbA:Below w.heap.size w (w1.alloc (.cells #[.int .i64 sx,.slice (some ⟨g,0,none⟩) n n] 48)):=(below3 hb1).alloc (by have:=(below3 hb1).size;omega) _
 have hcA:=(S1.out.bel hb1).bel (belA (Below.refl w1.heap.size w1) (o:=.cells #[.int .i64 sx,.slice (some ⟨g,0,none⟩) n n] 48))
 have hgA:WBlk (w1.alloc (.cells #[.int .i64 sx,.slice (some ⟨g,0,none⟩) n n] 48)) g rz:=hblk.bel (belA (Below.refl w1.heap.size w1))
 have b3A:=b31.alloc (.cells #[.int .i64 sx,.slice (some ⟨g,0,none⟩) n n] 48)
 clear hblk b31 hb1 c20 c21 f2 b2A
 go_loopw [23] (fun i wr=>∃ k:Nat,k≤n∧i=.int .i64 k∧Below w.heap.size w wr∧At wr (w.heap.size+1+1) Rz∧At wr w1.heap.size (.cells #[.int .i64 sx,.slice (some ⟨g,0,none⟩) n n] 48)∧WCells wr sa sz∧WBlk wr g (mixZ rz k)) (fun i _=>n - (intOf i).toNat)
 case atStart=>exact ⟨0,Nat.zero_le _,rfl,hbA,b3A,b4A,hcA.c,hgA⟩
 case round =>
  obtain ⟨k,hkk,rfl,hbr,b3r,b4r,hcr,hgr⟩:=hrel
  clear b3A hbA hcA hgA b4A
  obtain ⟨c30,c31,f3⟩:=b3r.rz
  obtain ⟨c40,c41,f4⟩:=At.rw3 (r:=⟨sx,some ⟨g,0,none⟩,n,rz⟩) (by simp only [Rw.o,HZ.out];exact b4r)
  simp only [HZ.out] at c40 c41
  have hbr:=jH hbr
  have b3r:=jH b3r
  have b4r:=jH b4r
  by_cases hlt:k<n
  ·have hne0:sz≠[]:=fun h=>by have:=HZ2.out;subst h;simp at this;omega
   obtain ⟨b,off,rfl,hb,hcl⟩:=hcr hne0
   have hck:=hcl k _ (List.getElem?_eq_getElem (by have:=HZ2.out;omega))
   have hbb:=HOLD.out b off rfl hne0
   have HL:=jH hcr
   have hkm:k<(mixZ rz k).length:=by rw [mixZ_len _ (by have:=HZ.out;omega)];have:=HZ.out;omega
   have hgc:=hgr.cell k hkm
   rw [mixZ_at _ (by have:=HZ.out;omega)] at hgc
   have hgf:=hgr.frozen
   obtain ⟨z,hz⟩:∃ z,z=sz[k]'(by have:=HZ2.out;omega):=⟨_,rfl⟩
   obtain ⟨y,hy⟩:∃ y,y=rz.getD k 0:=⟨_,rfl⟩
   rw [← hz] at hck
   rw [← hy] at hgc
   have hzz:bits .andNot .u64 y z=0:=by
    have:=HK.out k (by have:=HZ.out;omega)
    unfold lkW at this
    have e:sz[k]'(by have:=HZ2.out;omega)=sz.getD k 0:=by simp [List.getD_eq_getElem?_getD,HZ2.out,hlt]
    rw [hy,hz,e]
    exact this
   have HG:=jH hgr
   have hx1:(0:Int)≤(k:Int):=by omega
   have hx2:(k:Int)<(n:Int):=by omega
   have hne1:w1.heap.size≠g:=by omega
   have hne2:g≠w1.heap.size:=by omega
   have hne3:b≠g:=by omega
   clear hz hy hcl hcr hgr hkk
   go_wp2
   go_roundw
   case rel =>
    refine ⟨k+1,by omega,by go_num,hbr.out.setCell (by simp;omega) _,b3r.out.set (by simp;omega) _,b4r.out.set (by simp;omega) _,fun hh=>?_,?_⟩
    ·obtain ⟨b',off',h1,h2,h3⟩:=HL.out hh
     simp at h1
     obtain ⟨rfl,rfl⟩:=h1
     exact ⟨_,_,rfl,by simpa using h2,fun i z hi=>(World.cell?_setCell_other _ _ _ _ (by first|(simp;done)|(simp;omega))).trans (h3 i z hi)⟩
    ·rw [← mixZ_on _ (by have:=HZ.out;omega)]
     exact HG.out.set k _
   case measure=>simp [intOf];omega
  ·obtain rfl:k=n:=by omega
   rw [← HZ.out,mixZ_all,HZ.out] at hgr
   have hgr:=jH hgr
   go_wp2
   refine bodyPost_ret (v:=.tuple #[.agg #[.int .i64 sx,.slice (some ⟨g,0,none⟩) k k],.int .i64 0]) (by simp [results,Tryz.results82,go_sem,c30,c31]) rfl ⟨g,by rfl,by omega,?_,?_⟩
   ·exact (hgr.out.at_.set (by simp;omega) _).set (by simp;omega) _
   ·exact below_setTwo hbr.out (by omega) _ _
theorem each2_none (l:Nat) (b g n:Nat) (x:Int) (hn:n≤100) (W:World) (hA:At W b (.cells #[.int .i64 x,.slice (some ⟨g,0,none⟩) n n] 48)) (hG:WBlk W g (List.replicate n 0)) :
  Calls Tryz.prog 102 #[.func (.yield l) #[] #[],.pointer (some ⟨b,0,none⟩)] W fun e w'=>e=.returned (.tuple #[])∧w'=W:=by
 have c1:W.cell? ⟨b,1,none⟩=some (.slice (some ⟨g,0,none⟩) n n):=by
  unfold At at hA
  simp [World.cell?,hA]
 have HG:=jH hG
 clear hG hA
 go_enter Tryz.func102,Tryz.ntmps102
 go_wp2_with fail
 go_loopw [8] (fun i wr=>∃ k:Nat,k≤n∧i=.int .i64 k∧wr=W) (fun i _=>n - (intOf i).toNat)
 case atStart=>exact ⟨0,Nat.zero_le _,rfl,rfl⟩
 case round =>
  obtain ⟨k,hkk,rfl,hw⟩:=hrel
  replace hw:=hw.symm
  subst hw
  by_cases hlt:k<n
  ·have cz:W.cell? ⟨g,k,none⟩=some (.int .u64 0):=by
    have:=HG.out.cell k (by simpa using hlt)
    simpa [hlt] using this
   have hx1:(0:Int)≤(k:Int):=by omega
   have hx2:(k:Int)<(n:Int):=by omega
   clear hkk
   go_wp2_with fail
   go_loopw [4] (fun i wr=>i=.int .u64 0∧wr=W) (fun i _=>0)
   case atStart=>exact ⟨rfl,rfl⟩
   case round =>
    obtain ⟨rfl,hw⟩:=hrel
    replace hw:=hw.symm
    subst hw
    go_wp2_with fail
    go_roundw
    case rel=>exact ⟨k+1,by omega,by go_num,trivial⟩
    case measure=>simp [intOf];omega
  ·obtain rfl:k=n:=by omega
   go_wp2_with fail
   go_end0
   exact ⟨rfl,rfl⟩
theorem each_zero (x:Int) (g n:Nat) (w:World) (hG:WBlk w g (List.replicate n 0)) (hy:mayR x (List.replicate n 0)=true) :
  Calls Tryz.prog 83 #[.agg #[.int .i64 x,.slice (some ⟨g,0,none⟩) n n]] w fun e w'=>∃ b h,e=.returned (.func (.func 102) #[] #[.pointer (some ⟨b,0,none⟩)])∧At w' b (.cells #[.int .i64 x,.slice (some ⟨h,0,none⟩) n n] 48)∧WBlk w' h (List.replicate n 0)∧Below w.heap.size w w':=by
 obtain ⟨h0,h1,hn⟩:=mayR_len hy
 have hn1:n≤100:=by simp at hn;omega
 have hr:RwAt w ⟨x,some ⟨g,0,none⟩,n,List.replicate n 0⟩:=⟨by show _≤x;omega,by show x≤_;omega,by simp [maxLen];omega,by intro z hz;obtain rfl:=(List.mem_replicate.1 hz).2;decide,hG.cells⟩
 have C1:=jH (bOwn_yes _ _ (hr.bel (belA (Below.refl w.heap.size w) (o:=(Rw.o ⟨x,some ⟨g,0,none⟩,n,List.replicate n 0⟩)))) hy)
 simp only [Rw.v,Rw.o,Rw.own,List.length_replicate] at C1
 have b1:=jH (At.new w (.cells #[.int .i64 x,.slice (some ⟨g,0,none⟩) n n] 48))
 clear hr hG hn h0 h1 hy
 go_enter Tryz.func83,Tryz.ntmps83
 go_wp2_with (go_at_call 100;refine C1.out.mono ?_;rintro e w1 ⟨h,rfl,hgw,hblk,hb1⟩;have HB1:=jH hb1;have HBK:=jH hblk;clear hb1 hblk)
 have hB:=below1 HB1.out
 go_ret
 refine ⟨w1.heap.size,h,rfl,?_,?_,?_⟩
 ·exact At.new _ _
 ·exact HBK.out.bel (belA bR)
 ·exact hB.alloc hB.size _
theorem results52 {tmps:Array Value} {W:World} {b4 b5 b6:Nat} {u v x:Value} (h4:tmps[4]?.getD undef=.pointer (some ⟨b4,0,none⟩)) (h5:tmps[5]?.getD undef=.pointer (some ⟨b5,0,none⟩)) (h6:tmps[6]?.getD undef=.pointer (some ⟨b6,0,none⟩)) (c4:W.cell? ⟨b4,0,none⟩=some u) (c5:W.cell? ⟨b5,0,none⟩=some v) (c6:W.cell? ⟨b6,0,none⟩=some x):(results Tryz.f52 tmps).run Tryz.prog W=.ok (.tuple #[u,v,x]) W:=by
 have e:Tryz.f52.results=#[.cell 4 3,.cell 5 4,.cell 6 29]:=rfl
 simp [results,e,go_sem,h4,h5,h6,c4,c5,c6]
theorem At.putD {W:World} {b D:Nat} {o o':Obj} (h:At W b o) (hb:b≠D):At (W.putObj D o') b o:=(World.putObj_heap_other hb).trans h
theorem WBlk.at_set {w:World} {g:Nat} {zs:List Int} (h:WBlk w g zs) {b:Nat} (hb:g≠b) {u:Value}:WBlk (w.setCell ⟨b,0,none⟩ u) g zs:=h.at_.set (by simpa using hb) u
theorem first_none (r s:Rw) (w:World) (hr:RwAt w r) (hs:RwAt w s) (hx:s.x=r.x) (hy:mayR r.x r.zs=true) (hy2:mayR s.x s.zs=true) (hk:lackB r.zs s.zs=false) :
  Calls Tryz.prog 52 #[r.v,s.v] w fun e w'=>e=.returned (.tuple #[.int .i64 0,.bool false,.int .i64 0])∧Below w.heap.size w w':=by
 have HB:Hid (Below w.heap.size w (((((w.alloc r.o).alloc s.o).alloc (One (.int .i64 0) 3)).alloc (One (.bool false) 4)).alloc (One (.int .i64 0) 29))):=jH (belA (belA (belA (belA (belA bR)))))
 have C1:=jH (less_zero s r _ (hs.bel HB.out) (hr.bel HB.out) hx.symm hy2 hy hk)
 have b2:=jH ((((At.new w r.o).alloc s.o).alloc (One (.int .i64 0) 3)).alloc (One (.bool false) 4) |>.alloc (One (.int .i64 0) 29))
 have b3:=jH ((((at_snd w r.o s.o).alloc (One (.int .i64 0) 3)).alloc (One (.bool false) 4)).alloc (One (.int .i64 0) 29))
 have b4:=(((At.new ((w.alloc r.o).alloc s.o) (One (.int .i64 0) 3))).alloc (One (.bool false) 4)).alloc (One (.int .i64 0) 29)
 have b5:=(At.new (((w.alloc r.o).alloc s.o).alloc (One (.int .i64 0) 3)) (One (.bool false) 4)).alloc (One (.int .i64 0) 29)
 have b6:=At.new ((((w.alloc r.o).alloc s.o).alloc (One (.int .i64 0) 3)).alloc (One (.bool false) 4)) (One (.int .i64 0) 29)
 simp only [World.size_alloc] at b4 b5 b6
 have b4:=jH b4
 have b5:=jH b5
 have b6:=jH b6
 have HY:Hid (mayR s.x (List.replicate s.zs.length 0)=true):=jH (by
  unfold mayR at *
  simp at hy2 ⊢
  exact ⟨hy2.1,.inr (by cases h:s.zs.length <;> simp [List.getD_eq_getElem?_getD])⟩)
 obtain ⟨rx,ra,rc,rz⟩:=r
 obtain ⟨sx,sa,sc,sz⟩:=s
 simp only [Rw.own] at *
 obtain ⟨n,hzn⟩:∃ n,sz.length=n:=⟨_,rfl⟩
 obtain ⟨m,hzm⟩:∃ m,rz.length=m:=⟨_,rfl⟩
 simp only [Rw.v,Rw.o,Rw.own,hzn,hzm] at HB C1 b2 b3 b4 b5 b6 HY ⊢
 clear hr hs hy hy2 hk hx hzn hzm
 refine (callsIn_wide (n:=3)).1 ?_
 refine callsIn_of_wp_marks Tryz.func52 rfl trivial ?_ rfl
 simp only [Tryz.ntmps52,List.size_toArray,List.length_cons,List.length_nil,Nat.reduceAdd,Nat.reduceSub,Array.replicate_succ,Array.replicate_zero,List.push_toArray,List.append_toArray,List.nil_append,List.cons_append]
 refine wpIn_mono (Q:=NoP (bodyPostM Fence.wide 3 Tryz.prog Tryz.f52 fun e w'=>e=.returned (.tuple #[.int .i64 0,.bool false,.int .i64 0])∧Below w.heap.size w w')) ?_ (fun e a w h=>noP h)
 refine wpIn_wide.2 ?_
 go_wp2_with (first
  | (go_at_call 82;refine C1.out.mono ?_;rintro e w1 ⟨g,rfl,hgw,hblk,hb1⟩;have HB1:=jH hb1;have HBK:=jH hblk;have b41:=b4.out.below hb1;have b51:=b5.out.below hb1;have b61:=b6.out.below hb1;obtain ⟨c40,f4⟩:=b41.one;obtain ⟨c50,f5⟩:=b51.one;obtain ⟨c60,f6⟩:=b61.one;have hlt:=b61.lt;have b41:=jH b41;have b51:=jH b51;have b61:=jH b61;clear hb1 hblk)
  | (go_at_call 83;refine (each_zero sx g n _ (WBlk.bel (WBlk.at_set HBK.out (by simp only [World.size_alloc] at hgw ⊢;omega)) (belA bR)) HY.out).mono ?_;rintro e w3 ⟨b,h,rfl,hA3,hW3,hb3⟩;have HA3:=jH hA3;have HW3:=jH hW3;have HB3:=jH hb3;clear hA3 hW3 hb3))
 clear C1 HB b2 b3 b4 b5 b6
 have hn:n≤100:=by have:=(mayR_len HY.out).2.2;have:=(mayR_len HY.out).2.1;simp at *;omega
 have HG:Hid (w.heap.size+1+1+1+1<w1.heap.size):=jH hlt
 have HBw:Hid (Below w.heap.size w ((w1.setCell ⟨w.heap.size+1+1+1+1,0,none⟩ (.int .i64 0)).alloc (.cells #[.int .i64 sx,.slice (some ⟨g,0,none⟩) n n] 48))):=jH (by
  have h1:Below w.heap.size w w1:=(belA (belA (belA (belA (belA (Below.refl w.heap.size w) (o:=.cells #[.int .i64 rx,.slice ra m rc] 48)) (o:=.cells #[.int .i64 sx,.slice sa n sc] 48)) (o:=One (.int .i64 0) 3)) (o:=One (.bool false) 4)) (o:=One (.int .i64 0) 29)).trans (HB1.out.mono (by simp;omega))
  exact (h1.setCell (by simp;omega) _).alloc (by have:=h1.size;simp;omega) _)
 have HBB:Hid (Below w.heap.size w w3):=jH (HBw.out.trans (HB3.out.mono HBw.out.size))
 have d4:=jH (((b41.out.set (a:=⟨w.heap.size+1+1+1+1,0,none⟩) (by simp) (.int .i64 0)).alloc (.cells #[.int .i64 sx,.slice (some ⟨g,0,none⟩) n n] 48)).below HB3.out)
 have d5:=jH (((b51.out.set (a:=⟨w.heap.size+1+1+1+1,0,none⟩) (by simp) (.int .i64 0)).alloc (.cells #[.int .i64 sx,.slice (some ⟨g,0,none⟩) n n] 48)).below HB3.out)
 have d6:=jH (((b61.out.setOne (.int .i64 0)).alloc (.cells #[.int .i64 sx,.slice (some ⟨g,0,none⟩) n n] 48)).below HB3.out)
 clear c40 c50 c60 f4 f5 f6
 refine range_none (gf:=102) (lb:=#[.pointer (some ⟨b,0,none⟩)]) rfl (fun args W=>by kernel_rfl) (fun l W hW=>(each2_none l b h n sx hn W (HA3.out.below hW) (HW3.out.bel hW)).mono fun e w' ⟨h1,h2⟩=>⟨⟨_,h1⟩,h2⟩) ?_
 intro D W hD hB hK
 have HBW:=jH (HBB.out.trans (hB.mono HBB.out.size))
 have l6:=d6.out.lt
 obtain ⟨x4,y4⟩:=(d4.out.below hB).one
 obtain ⟨x5,y5⟩:=(d5.out.below hB).one
 obtain ⟨x6,y6⟩:=(d6.out.below hB).one
 have HKK:=jH hK
 have HB9:=jH hB
 have q4:D≠w.heap.size+1+1:=by omega
 have q5:D≠w.heap.size+1+1+1:=by omega
 have q6:D≠w.heap.size+1+1+1+1:=by omega
 clear hB hK
 go_wp2_with fail
 have e4:=((((d4.out.below HB9.out).setOne (.int .i64 0)).set (a:=⟨w.heap.size+1+1+1,0,none⟩) (by dsimp only;omega) (.bool false)).set (a:=⟨w.heap.size+1+1+1+1,0,none⟩) (by dsimp only;omega) (.int .i64 0))
 have e5:=((((d5.out.below HB9.out).set (a:=⟨w.heap.size+1+1,0,none⟩) (by dsimp only;omega) (.int .i64 0)).setOne (.bool false)).set (a:=⟨w.heap.size+1+1+1+1,0,none⟩) (by dsimp only;omega) (.int .i64 0))
 have e6:=((((d6.out.below HB9.out).set (a:=⟨w.heap.size+1+1,0,none⟩) (by dsimp only;omega) (.int .i64 0)).set (a:=⟨w.heap.size+1+1+1,0,none⟩) (by dsimp only;omega) (.bool false)).setOne (.int .i64 0))
 have hK:=HKK.out
 have hK1:=(Below.heap_setCell W ⟨w.heap.size+1+1,0,none⟩ (.int .i64 0) D q4).trans hK
 have hK2:=(Below.heap_setCell (W.setCell ⟨w.heap.size+1+1,0,none⟩ (.int .i64 0)) ⟨w.heap.size+1+1+1,0,none⟩ (.bool false) D q5).trans hK1
 have hK3:=(Below.heap_setCell ((W.setCell ⟨w.heap.size+1+1,0,none⟩ (.int .i64 0)).setCell ⟨w.heap.size+1+1+1,0,none⟩ (.bool false)) ⟨w.heap.size+1+1+1+1,0,none⟩ (.int .i64 0) D q6).trans hK2
 refine ⟨by simp,.inl ⟨_,_,rfl,run_takeDeferred hK3,?_⟩⟩
 refine ⟨_,results52 rfl rfl rfl (e4.putD q4.symm).one.1 (e5.putD q5.symm).one.1 (e6.putD q6.symm).one.1,rfl,?_⟩
 exact ((((HBW.out.setCell (by simp only;omega) _).setCell (by simp only;omega) _).setCell (by simp only;omega) _)).grown (grownBy_putObj' _ _ _) (by simpa using HBW.out.size) (fun k e=>by cases e;have:=HBB.out.size;omega)
theorem has_all (r s:Rw) (w:World) (hr:RwAt w r) (hs:RwAt w s) (hx:s.x=r.x) (hy:mayR r.x r.zs=true) (hy2:mayR s.x s.zs=true) (hk:lackB r.zs s.zs=false) :
  Calls Tryz.prog 23 #[r.v,s.v] w fun e w'=>e=.returned (.tuple #[.bool true,.int .i64 0])∧Below w.heap.size w w':=by
 have HB:Hid (Below w.heap.size w ((w.alloc r.o).alloc s.o)):=jH (belA (belA bR))
 have C1:=jH (first_none r s _ (hr.bel HB.out) (hs.bel HB.out) hx hy hy2 hk)
 clear hr hs hy hy2 hk hx
 go_enter Tryz.func23,Tryz.ntmps23
 go_wp2_with (go_at_call 52;refine C1.out.mono ?_;rintro e w1 ⟨rfl,hb1⟩;have HB1:=jH hb1;clear hb1)
 go_ret2
 exact ⟨rfl,HB.out.trans (HB1.out.mono HB.out.size)⟩
end Go.Proofs.YtmjenlogbkbgnaaGreatDoor
