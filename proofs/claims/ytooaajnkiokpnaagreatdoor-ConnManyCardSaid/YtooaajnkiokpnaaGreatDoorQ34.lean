/-
  Part of a proof: same: what a gatherer told and what the document's told, held against each other. Condition: the block is read; the fault's code is small. Conditions: those that each theorem names.
-/
import Derived.Test.YtooaajnkiokpnaaGreatDoorQ07
import Derived.Test.YtooaajnkiokpnaaGreatDoorQ30
import Derived.Test.YtooaajnkiokpnaaGreatDoorQ04
import Derived.Test.YtooaajnkiokpnaaGreatDoorQ01
import Derived.Test.YtooaajnkiokpnaaGreatDoorQ29
import Derived.Deep.RegionHeld3
import Derived.IntWalk
namespace Go.Proofs.YtooaajnkiokpnaaGreatDoor
open Go.RowKit Go.WideShapes
set_option maxHeartbeats 4000000
set_option maxRecDepth 100000
section
def Fl(w:World)(base:Nat)(fw sv:Value)(out:List Fd):Prop:=
 ∃z:Nat,sv=.int .i64 (z:Int)∧z≤4294967296∧((z=tot out∧OwS w base 57 3 fw out.length (enl fdc out))∨(4096<z∧4096<tot out))∧∀k,ob fw k→base≤k∧k<w.heap.size
def zli(w:World)(base:Nat)(S:Nat→Prop)(gr:Nat)(d fw:Value)(l:List UInt8)(out:List Fd)(e:Ending)(w':World):Prop:=
 e=.returned (.tuple #[])∧∃fw' sv',Rs w' S gr d fw' sv' l∧Fl w' base fw' sv' out∧Fs (λk=>k=gr∨ob fw k) w w'∧Nx w fw fw'∧¬ob fw' gr
attribute [local irreducible] tot sz
theorem Yv{w:World}{base:Nat}{S:Nat→Prop}{gr:Nat}{d fw sv:Value}{l:List UInt8}{out:List Fd}(f:Fd)(hf:sz f≤2147483648)(hr:Rs w S gr d fw sv l)(hS:∀k,S k→k<w.heap.size)(hSb:∀k,S k→k<base)(hlo:base≤gr)(hfl:Fl w base fw sv out)(hap:¬ob fw gr)(hn:out.length≤1073741824) :
  Calls Tryz.prog 201 #[pt gr,fv f] w (zli w base S gr d fw l (out++[f])):=by
 obtain⟨z,rfl,hz,hcase,hfb⟩:=hfl
 have hgl:=hr.lt
 obtain⟨A,c,hR,hc,hA,hns⟩:=hr
 have hts:=zgb out f
 obtain⟨C,hC⟩:∃C:Obj,C=.cells #[.string ⟨f.nm.toArray⟩,.string ⟨f.vl.toArray⟩,.bool f.nv] 57:=⟨_,rfl⟩
 have hb0:=(Below.refl w.heap.size w).alloc (Nat.le_refl _) C
 have hR0:=hR.below hb0 hgl
 have HR0:=z2w hR0
 have HA0:Hid (RdS (w.alloc C) S A (byc l)):=hA.keep λg hg=>hb0.block g (hS g hg)
 have HB0:Hid (Row (w.alloc C) w.heap.size 57 #[.string ⟨f.nm.toArray⟩,.string ⟨f.vl.toArray⟩,.bool f.nv]):=by show Row _ _ _ _;rw[hC];exact Row.new w _ _
 have HF0:Hid (Fs (λk=>k=gr∨ob fw k) w (w.alloc C)):=Fs.of_below hb0
 have HFB:=z2w hfb
 have hs0:w.heap.size<(w.alloc C).heap.size:=by simp
 have r3:=hR0.cell (j:=3) rfl
 unfold pt fv tx at *
 subst hC
 by_cases hg:4096<z
 ·have hg1:(4096:Int)<(z:Int):=by omega
  have hov:Hid (4096<z∧4096<tot (out++[f])):=by
   show _∧_
   refine⟨hg,?_⟩
   rcases hcase with h1|h1<;>omega
  clear hcase hR hA hR0 hb0
  go_enter Tryz.func201,Tryz.ntmps201
  go_wp2_with fail
  generalize w.alloc (.cells #[.string ⟨f.nm.toArray⟩,.string ⟨f.vl.toArray⟩,.bool f.nv] 57)=w0 at *
  refine bodyPost_ret (results_none rfl _ _ _) rfl ?_
  exact⟨rfl,fw,.int .i64 (z:Int),⟨A,c,HR0.out,hc,HA0.out,hns⟩,⟨z,rfl,hz,.inr hov.out,λk hk=>⟨(HFB.out k hk).1,by have:=(HFB.out k hk).2;omega⟩⟩,HF0.out,Nx.refl w fw,hap⟩
 ·have hg1:decide ((4096:Int)<(z:Int))=false:=by simp;omega
  obtain⟨hzt,hO⟩:z=tot out∧OwS w base 57 3 fw out.length (enl fdc out):=by
   rcases hcase with h1|h1
   ·exact h1
   ·exact absurd h1.1 hg
  have HO0:=z2w (hO.below hb0)
  have hsz:=zbj f hf
  obtain⟨i0,hi0,hz0,hz1,hz2⟩:=Yb
  obtain⟨T,hT⟩:∃T,T=tot (out++[f]):=⟨_,rfl⟩
  have HT:=z2w hT
  rw[←hT,←hzt] at hts
  unfold fv tx at hsz
  have HZ:=z2w hzt
  clear hcase hR hA hR0 hb0 hO hT hzt
  go_enter Tryz.func201,Tryz.ntmps201
  go_wp2_with fail
  generalize w.alloc (.cells #[.string ⟨f.nm.toArray⟩,.string ⟨f.vl.toArray⟩,.bool f.nv] 57)=w0 at *
  have e3:w0.drew.cell? ⟨gr,3,none⟩=some (.int .i64 (z:Int)):=HR0.out.cell (j:=3) rfl
  have b0:w0.drew.cell? ⟨w.heap.size,0,none⟩=some (.string ⟨f.nm.toArray⟩):=HB0.out.cell (j:=0) rfl
  have b1:w0.drew.cell? ⟨w.heap.size,1,none⟩=some (.string ⟨f.vl.toArray⟩):=HB0.out.cell (j:=1) rfl
  have b2:w0.drew.cell? ⟨w.heap.size,2,none⟩=some (.bool f.nv):=HB0.out.cell (j:=2) rfl
  refine qg 9 (λw'=>w'.cell? ⟨gr,3,none⟩=some (.int .i64 (z:Int))∧w'.cell? ⟨w.heap.size,0,none⟩=some (.string ⟨f.nm.toArray⟩)∧w'.cell? ⟨w.heap.size,1,none⟩=some (.string ⟨f.vl.toArray⟩)∧w'.cell? ⟨w.heap.size,2,none⟩=some (.bool f.nv)) (by kernel_rfl) ⟨e3,b0,b1,b2⟩ (λhHeld=>?_)
  refine tkE 0 ?_
  refine tkE 1 ?_
  refine tkE 2 ?_
  refine tkE 3 ?_
  refine tkE 4 ?_
  refine zm (i:=5) (by kernel_rfl) rfl (λK hK=>?_)
  go_simp
  go_at_call 182
  refine(hsz _).mono ?_
  rintro e w1 ⟨rfl,hb1⟩
  have k0:=(hb1.cell (p:=⟨gr,3,none⟩) (World.block_lt_of_cell? _ _ e3)).trans e3
  have k1:=(hb1.cell (p:=⟨w.heap.size,0,none⟩) (World.block_lt_of_cell? _ _ b0)).trans b0
  have k2:=(hb1.cell (p:=⟨w.heap.size,1,none⟩) (World.block_lt_of_cell? _ _ b1)).trans b1
  have k3:=(hb1.cell (p:=⟨w.heap.size,2,none⟩) (World.block_lt_of_cell? _ _ b2)).trans b2
  have hB:Below w0.heap.size w0 w1:=((Below.refl _ w0).drew).trans hb1
  have HR1:=z2w (HR0.out.below hB HR0.out.lt)
  have HB1:=z2w (HB0.out.below hB HB0.out.lt)
  have HO1:=z2w (HO0.out.below hB)
  have HF1:=z2w (HF0.out.then_below hB)
  have HA1:Hid (RdS w1 S A (byc l)):=HA0.out.keep λg hg=>hB.block g (by have:=hS g hg;omega)
  have hs1:w.heap.size<w1.heap.size:=by have:=hB.size;omega
  clear hb1 hB HR0 HB0 HO0 HF0 HA0 hsz
  go_simp
  refine hK.out _ _ ⟨k0,k1,k2,k3⟩ (λhHeld=>?_)
  clear hK K
  try refine ptk ?_
  refine tkE 6 ?_
  refine tkE 7 ?_
  refine tkE 8 ?_
  have hth3:=HR1.out.thawed 3
  refine qh (by kernel_rfl) rfl (by kernel_rfl) (λK hK=>?_)
  go_simp
  refine hK.out _ _ ?_
  clear hK K
  have hsum:IntKind.i64.wrap ((z:Int)+(sz f:Int))=(T:Int):=by rw[IntWalk.i64_in _ (by omega)];omega
  try refine ptk ?_
  rw[hsum]
  have HR2:Hid (Row (w1.setCell ⟨gr,3,none⟩ (.int .i64 (T:Int))) gr 230 #[d,.slice A l.length c,fw,.int .i64 (T:Int)]):=Row.stored HR1.out 3 _
  have HFs:Hid (Fs (λk=>k=gr) w1 (w1.setCell ⟨gr,3,none⟩ (.int .i64 (T:Int)))):=(Fs.refl (λk=>k=gr) w1).setCell (λ_=>rfl) _ _
  have HB2:=z2w (HFs.out.row (b:=w.heap.size) (λe=>by omega) HB1.out)
  have HO2:=z2w (HFs.out.owns HO1.out λk hk e=>hap (by rw[←e];exact hk))
  have HF2:Hid (Fs (λk=>k=gr∨ob fw k) w (w1.setCell ⟨gr,3,none⟩ (.int .i64 (T:Int)))):=HF1.out.trans HFs.out λk _ e=>.inl e
  have HA2:Hid (RdS (w1.setCell ⟨gr,3,none⟩ (.int .i64 (T:Int))) S A (byc l)):=HFs.out.reads HA1.out λk hk=>⟨by have:=hS k hk;omega,λe=>hns (by rw[←e];exact hk)⟩
  have hs2:w.heap.size<(w1.setCell ⟨gr,3,none⟩ (.int .i64 (T:Int))).heap.size:=by simpa [World.setCell] using hs1
  clear HR1 HFs HB1 HO1 HF1 HA1 hth3 k0 k1 k2 k3 e3 b0 b1 b2 r3
  generalize w1.setCell ⟨gr,3,none⟩ (.int .i64 (T:Int))=w2 at *
  go_wp2_with fail
  obtain⟨Aw,cw,rfl,hw1,hw2⟩:=HO2.out.shape
  have e0:w2.drew.cell? ⟨gr,2,none⟩=some (.slice Aw out.length cw):=HR2.out.cell (j:=2) rfl
  have d0:w2.drew.cell? ⟨w.heap.size,0,none⟩=some (.string ⟨f.nm.toArray⟩):=HB2.out.cell (j:=0) rfl
  have d1:w2.drew.cell? ⟨w.heap.size,1,none⟩=some (.string ⟨f.vl.toArray⟩):=HB2.out.cell (j:=1) rfl
  have d2:w2.drew.cell? ⟨w.heap.size,2,none⟩=some (.bool f.nv):=HB2.out.cell (j:=2) rfl
  refine qg 10 (λw'=>w'.cell? ⟨gr,2,none⟩=some (.slice Aw out.length cw)∧w'.cell? ⟨w.heap.size,0,none⟩=some (.string ⟨f.nm.toArray⟩)∧w'.cell? ⟨w.heap.size,1,none⟩=some (.string ⟨f.vl.toArray⟩)∧w'.cell? ⟨w.heap.size,2,none⟩=some (.bool f.nv)) (by kernel_rfl) ⟨e0,d0,d1,d2⟩ (λhHeld=>?_)
  refine tkE 0 ?_
  refine tkE 1 ?_
  refine tkE 2 ?_
  refine tkE 3 ?_
  refine tkE 4 ?_
  refine tkE 5 ?_
  refine zm (i:=6) (by kernel_rfl) rfl (λK hK=>?_)
  go_simp
  have m0:(w2.alloc (.cells #[.string ⟨f.nm.toArray⟩,.string ⟨f.vl.toArray⟩,.bool f.nv] 57)).drew.cell? ⟨gr,2,none⟩=some (.slice Aw out.length cw):=(World.cell?_alloc_lt w2 (.cells #[.string ⟨f.nm.toArray⟩,.string ⟨f.vl.toArray⟩,.bool f.nv] 57) ⟨gr,2,none⟩ (World.block_lt_of_cell? _ _ e0)).trans e0
  have m1:(w2.alloc (.cells #[.string ⟨f.nm.toArray⟩,.string ⟨f.vl.toArray⟩,.bool f.nv] 57)).drew.cell? ⟨w.heap.size,0,none⟩=some (.string ⟨f.nm.toArray⟩):=(World.cell?_alloc_lt w2 (.cells #[.string ⟨f.nm.toArray⟩,.string ⟨f.vl.toArray⟩,.bool f.nv] 57) ⟨w.heap.size,0,none⟩ (World.block_lt_of_cell? _ _ d0)).trans d0
  have m2:(w2.alloc (.cells #[.string ⟨f.nm.toArray⟩,.string ⟨f.vl.toArray⟩,.bool f.nv] 57)).drew.cell? ⟨w.heap.size,1,none⟩=some (.string ⟨f.vl.toArray⟩):=(World.cell?_alloc_lt w2 (.cells #[.string ⟨f.nm.toArray⟩,.string ⟨f.vl.toArray⟩,.bool f.nv] 57) ⟨w.heap.size,1,none⟩ (World.block_lt_of_cell? _ _ d1)).trans d1
  have m3:(w2.alloc (.cells #[.string ⟨f.nm.toArray⟩,.string ⟨f.vl.toArray⟩,.bool f.nv] 57)).drew.cell? ⟨w.heap.size,2,none⟩=some (.bool f.nv):=(World.cell?_alloc_lt w2 (.cells #[.string ⟨f.nm.toArray⟩,.string ⟨f.vl.toArray⟩,.bool f.nv] 57) ⟨w.heap.size,2,none⟩ (World.block_lt_of_cell? _ _ d2)).trans d2
  have hB:Below w2.heap.size w2 (w2.alloc (.cells #[.string ⟨f.nm.toArray⟩,.string ⟨f.vl.toArray⟩,.bool f.nv] 57)).drew:=((Below.refl _ w2).alloc (Nat.le_refl _) _).drew
  have HR3:=z2w (HR2.out.below hB HR2.out.lt)
  have HO3:=z2w (HO2.out.below hB)
  have HF3:=z2w (HF2.out.then_below hB)
  have HA3:Hid (RdS (w2.alloc (.cells #[.string ⟨f.nm.toArray⟩,.string ⟨f.vl.toArray⟩,.bool f.nv] 57)).drew S A (byc l)):=HA2.out.keep λg hg=>hB.block g (by have:=hS g hg;omega)
  have HN3:Hid (∀j u,(fdc f)[j]?=some u→(w2.alloc (.cells #[.string ⟨f.nm.toArray⟩,.string ⟨f.vl.toArray⟩,.bool f.nv] 57)).drew.cell? ((⟨w2.heap.size,0,none⟩:Addr).add j)=some u):=World.news_of_block (heap_alloc_last w2 (.cells #[.string ⟨f.nm.toArray⟩,.string ⟨f.vl.toArray⟩,.bool f.nv] 57))
  have hs3:w2.heap.size<(w2.alloc (.cells #[.string ⟨f.nm.toArray⟩,.string ⟨f.vl.toArray⟩,.bool f.nv] 57)).drew.heap.size:=by simp[World.drew]
  clear HR2 HO2 HF2 HA2 hB
  refine hK.out _ _ ⟨m0,m1,m2,m3⟩ (λhHeld=>?_)
  clear hK K
  try refine ptk ?_
  generalize (w2.alloc (.cells #[.string ⟨f.nm.toArray⟩,.string ⟨f.vl.toArray⟩,.bool f.nv] 57)).drew=w5 at *
  refine zm (i:=7) (by kernel_rfl) rfl (λK hK=>?_)
  refine Zr rfl (.tmp 22) (.tmp 24) 23 rfl base 57 i0 _ 3 40 Tryz.underlying23 hi0 hz0 hz1 hz2 rfl (.slice Aw out.length cw) out.length (enl fdc out) rfl HO3.out ⟨w2.heap.size,0,none⟩ 1 1 (fdc f) rfl rfl HN3.out (zj1 _) (by omega) (by simp only[maxLen];omega) (by omega) (by omega) ?_
  intro A6 c6 w6 hO6 hg6 hb6
  have hFg:Fs (ob (.slice Aw out.length cw)) w5 w6:=Fs.of_grown hg6
  have hN6:Nx w5 (.slice Aw out.length cw) (.slice A6 (out.length+1) c6):=Nx.of_new hb6
  have hR6:=hFg.row hap HR3.out
  have n0:=hR6.cell (j:=2) rfl
  have hbn:some w.heap.size≠(Value.slice Aw out.length cw).ownBlock:=λe=>by
   have:=(HFB.out w.heap.size e.symm).2
   omega
  have n1:=(hg6.cell_far ⟨w.heap.size,0,none⟩ (World.block_lt_of_cell? _ _ m1) hbn).trans m1
  have n2:=(hg6.cell_far ⟨w.heap.size,1,none⟩ (World.block_lt_of_cell? _ _ m2) hbn).trans m2
  have n3:=(hg6.cell_far ⟨w.heap.size,2,none⟩ (World.block_lt_of_cell? _ _ m3) hbn).trans m3
  have hap6:¬ob (.slice A6 (out.length+1) c6) gr:=hN6.not (by have:=HF3.out.size;omega) hap
  have hthaw:=hR6.thawed 2
  have HR7:Hid (Row (w6.setCell ⟨gr,2,none⟩ (.slice A6 (out.length+1) c6)) gr 230 #[d,.slice A l.length c,.slice A6 (out.length+1) c6,.int .i64 (T:Int)]):=Row.stored hR6 2 _
  have hFs:Fs (λk=>k=gr) w6 (w6.setCell ⟨gr,2,none⟩ (.slice A6 (out.length+1) c6)):=(Fs.refl (λk=>k=gr) w6).setCell (λ_=>rfl) _ _
  have HF7:Hid (Fs (λk=>k=gr∨ob (.slice Aw out.length cw) k) w (w6.setCell ⟨gr,2,none⟩ (.slice A6 (out.length+1) c6))):=(HF3.out.trans hFg λk _ e=>.inr e).trans hFs λk _ e=>.inl e
  have HO7:=z2w (hFs.owns hO6 λk hk e=>hap6 (by rw[←e];exact hk))
  have HA7:Hid (RdS (w6.setCell ⟨gr,2,none⟩ (.slice A6 (out.length+1) c6)) S A (byc l)):=hFs.reads (hFg.reads HA3.out λk hk=>⟨by have:=hS k hk;omega,λe=>by have:=(HFB.out k e).1;have:=hSb k hk;omega⟩) λk hk=>⟨by have:=hS k hk;have:=hFg.size;omega,λe=>hns (by rw[←e];exact hk)⟩
  have HN7:Hid (Nx w (.slice Aw out.length cw) (.slice A6 (out.length+1) c6)):=(Nx.refl w _).trans hN6 (by have:=HF3.out.size;omega)
  have HAP:=z2w hap6
  have HFB7:Hid (∀k,ob (.slice A6 (out.length+1) c6) k→base≤k∧k<(w6.setCell ⟨gr,2,none⟩ (.slice A6 (out.length+1) c6)).heap.size):=λk hk=>HO7.out.lt k hk
  refine hK.out _ _ ⟨n0,n1,n2,n3⟩ (λhHeld=>?_)
  clear hK K hap6 hN6 hFg hFs hg6 hb6 hO6 HR3 HO3 HF3 HA3 HN3 m0 m1 m2 m3 e0 d0 d1 d2
  try refine ptk ?_
  refine tkE 8 ?_
  refine tkE 9 ?_
  refine qh (by kernel_rfl) rfl (by kernel_rfl) (λK hK=>?_)
  go_simp
  refine hK.out _ _ ?_
  clear hK K
  try refine ptk ?_
  generalize w6.setCell ⟨gr,2,none⟩ (.slice A6 (out.length+1) c6)=w7 at *
  clear hthaw n0 n1 n2 n3 hR6
  go_wp2_with fail
  refine bodyPost_ret (results_none rfl _ _ _) rfl ?_
  refine⟨rfl,.slice A6 (out.length+1) c6,.int .i64 (T:Int),⟨A,c,HR7.out,hc,HA7.out,hns⟩,⟨T,rfl,by omega,.inl ⟨HT.out,?_⟩,HFB7.out⟩,HF7.out,HN7.out,HAP.out⟩
  rw[List.length_append,jq,Zb]
  exact HO7.out
end
section
theorem z0g(w:World):Calls Tryz.prog 111 #[.nilIface] w λe w'=>e=.returned (.agg (xt 0 0))∧Below w.heap.size w w':=zhh w
theorem z0a{g:Nat}{s c:Int}{w:World}(hR:Row w g 174 #[.int .u8 s,.int .u32 c])(hG:GlobE w):Calls Tryz.prog 111 #[.iface 172 (.pointer (some ⟨g,0,none⟩))] w λe w'=>e=.returned (.agg (xt s c))∧Below w.heap.size w w':=Xq hR hG
theorem GlobE.fsY{S:Nat→Prop}{w w':World}(h:GlobE w)(hf:Fs S w w')(hS:¬S 0):GlobE w':=(World.cell?_of_block (a:=⟨0,0,none⟩) (hf.block _ (jf h) hS)).trans h
def ftb(n:Nat):Array Value:=xt (if n=0 then 0 else 1) n
def z0n(w:World)(base g:Nat)(v:Value)(r:Gm × Bool × Gm)(e:Ending)(w':World):Prop:=
 ∃(A':Option Addr) (c':Nat),e=.returned (.tuple #[.agg (whc r.2.2.st A' r.2.2.blk.length c' r.2.2.en),.bool r.2.1,.agg (ftb r.1.bad)])∧Fs (gvS g v) w w'∧
  Bo w' base 5 (.slice A' r.2.2.blk.length c') r.2.2.blk∧Nx w v (.slice A' r.2.2.blk.length c')∧(r.2.1=false→A'=none∧c'=0)∧∃A2 c2 o2,Ga w' base g r.1 A2 c2 o2∧Nx w v (.slice A2 r.1.blk.length c2)
theorem zjd{P:Program}{T T':TypeId}{fn:Func}{p q r:Tmp}{v:Value}{w:World}{g g':Nat}{cs cs':Array Value}(h:fn.results=#[.cell p T,.tmp q,.cell r T'])(tmps:Array Value)(hp:tmps.getD p undef=.pointer (some ⟨g,0,none⟩))(hR:Row w g T cs)(hk:AgOk P T cs)
  (hq:tmps.getD q undef=v) (hr:tmps.getD r undef=.pointer (some ⟨g',0,none⟩)) (hR':Row w g' T' cs') (hk':AgOk P T' cs'):(results fn tmps).run P w=.ok (.tuple #[.agg cs,v,.agg cs']) w:=by
 have hl:=Q3 hk hR
 have hl':=Q3 hk' hR'
 have hp':tmps[p]?.getD undef=.pointer (some ⟨g,0,none⟩):=by simpa using hp
 have hq':tmps[q]?.getD undef=v:=by simpa using hq
 have hr':tmps[r]?.getD undef=.pointer (some ⟨g',0,none⟩):=by simpa using hr
 simp only[results,h]
 simp[hp',hq',hr',asAddr,hl,hl']
theorem zwu(w:World)(x:Fm):∃w',((w.alloc (.cells x.c 66)).alloc (.cells #[.int .u32 0,.slice none 0 0,.bool false] 128)).alloc (.cells #[.int .u8 0,.int .u32 0] 29)=w'∧Row w' w.heap.size 66 x.c∧Row w' (w.heap.size+1) 128 (whc 0 none 0 0 false)∧Row w' (w.heap.size+2) 29 (xt 0 0)∧Below w.heap.size w w'∧w'.heap.size=w.heap.size+3:=
 ⟨_,rfl,((Row.new w _ _).alloc _).alloc _,by rw[zdt];exact(Row.made _ _ _ (by simp)).alloc _,by rw[z2n];exact Row.made _ _ _ (by simp),(((Below.refl _ _).alloc (Nat.le_refl _) _).alloc (by simp) _).alloc (by simp;omega) _,by simp⟩
theorem Ga.fault_far{w:World}{base g:Nat}{m:Gm}{A:Option Addr}{c:Nat}{o:Option Nat}(h:Ga w base g m A c o){k:Nat}{cs:Array Value}(hk:Row w k 29 cs)(x:Array Value):Ga (w.setRow k x) base g m A c o:=by
 refine h.keep (setRow_other w k g x (Row.ne h.row hk (by decide))) (λj hj=>setRow_other w k j x (λe=>?_)) (λp hp=>setRow_other w k p x ?_)
 ·subst e
  exact h.own.ne hk (by decide) hj
 ·rcases h.err with ⟨h0,_⟩|⟨p',h0,_,hr⟩
  ·rw[h0] at hp;cases hp
  ·rw[h0] at hp
   obtain rfl:=Option.some.inj hp
   exact Row.ne hr hk (by decide)
attribute [local irreducible] Fm.c gac whc xt
theorem zym{w:World}{base g:Nat}{m:Gm}{A:Option Addr}{c:Nat}{o:Option Nat}(h:Ga w base g m A c o)(hG:GlobE w)(x:Fm)(d:List UInt8)(hfl:x.fl<256)(hx:x.ty=1∨x.ty=9→x.dn=d.length∧d.length≤1000000000∧RdS w (·≠g) x.dA (byc d)) :
  Calls Tryz.prog 103 #[.pointer (some ⟨g,0,none⟩),.agg x.c] w (z0n w base g (.slice A m.blk.length c) (gtk m x.ty x.fl x.st d)):=by
 obtain⟨w1,hw1,t1,t2,t3,t4,t5⟩:=zwu w x
 have T7:=z2w hw1
 have TX:=z2w t1
 have TW:=z2w t2
 have TF:=z2w t3
 have HF:Hid (Fs (gvS g (.slice A m.blk.length c)) w w1):=Fs.of_below t4
 have HG:=z2w (hG.below t4)
 have HS:Hid (w1.heap.size=w.heap.size+3):=t5
 have H:=z2w (h.below t4)
 have HNE:Hid (¬gvS g (.slice A m.blk.length c) 0):=λe=>by
  have h1:=h.lo
  rcases e with e|e
  ·omega
  ·have:=(OwS.lt h.own _ e).1;omega
 have HTK:Hid (Calls Tryz.prog 129 #[.pointer (some ⟨g,0,none⟩),.agg x.c] w1 (TkPY w1 base g (.slice A m.blk.length c) (gtk m x.ty x.fl x.st d))):=zof (h.below t4) x d hfl (λe=>by
  obtain⟨q1,q2,q3⟩:=hx e
  exact⟨q1,q2,((q3.imp (λk hk hl=>(⟨hk,hl⟩:k≠g∧k<w.heap.size))).keep λk hk=>t4.block k hk.2).imp λk hk _=>hk.1⟩)
 have HLT:Hid (g<w.heap.size):=h.lts.1
 have HLO:=z2w h.lo
 generalize gtk m x.ty x.fl x.st d=R at *
 obtain⟨M,ok,W⟩:=R
 clear hw1 t1 t2 t3 t4 t5 hG h hfl hx
 go_enter Tryz.func103,Tryz.ntmps103
 go_upto_region 1 with fail
 rw[T7.out]
 clear T7
 go_wp2_with (refine zg rfl _ rfl rfl TX.out ?_)
 refine HTK.out.mono ?_
 rintro e w2 ⟨A',c',o',rfl,hf,hbo,hnx,hnil,hst⟩
 have TW2:Hid (Row w2 (w.heap.size+1) 128 (whc 0 none 0 0 false)):=hf.row (λe=>by
  rcases e with e|e
  ·exact Row.ne TW.out H.out.row (by decide) e
  ·exact H.out.own.ne TW.out (by decide) e) TW.out
 have TF2:Hid (Row w2 (w.heap.size+2) 29 (xt 0 0)):=hf.row (λe=>by
  rcases e with e|e
  ·exact Row.ne TF.out H.out.row (by decide) e
  ·exact H.out.own.ne TF.out (by decide) e) TF.out
 have HF2:Hid (Fs (gvS g (.slice A m.blk.length c)) w w2):=HF.out.trans hf (λ_ _ e=>e)
 have HG2:=z2w (GlobE.fsY HG.out hf HNE.out)
 have HS2:Hid (w.heap.size+3≤w2.heap.size):=by have:=hf.size;show _≤_;rw[←HS.out];exact this
 have HBO:Hid (Bo w2 base 5 (.slice A' W.blk.length c') W.blk):=hbo
 have HNX:Hid (Nx w (.slice A m.blk.length c) (.slice A' W.blk.length c')):=hnx.from HF.out.size
 have HNL:Hid (ok=false→A'=none∧c'=0):=hnil
 have HW1:Hid (w.heap.size≤w1.heap.size):=HF.out.size
 obtain⟨w3,hw3,s1,s2,s3⟩:=zo8 w2 W.st A' W.blk.length c' W.en
 have S7:=z2w hw3
 have S1:=z2w s1
 have S2:=z2w s2
 have TW3:Hid (Row w3 (w.heap.size+1) 128 (whc 0 none 0 0 false)):=TW2.out.below s3 TW2.out.lt
 have TF3:Hid (Row w3 (w.heap.size+2) 29 (xt 0 0)):=TF2.out.below s3 TF2.out.lt
 have HF3:=z2w (HF2.out.then_below s3)
 have HG3:=z2w (HG2.out.below s3)
 have HBO3:Hid (Bo w3 base 5 (.slice A' W.blk.length c') W.blk):=OwS.below HBO.out s3
 have HPW:Hid (w2.heap.size≠w.heap.size+1):=by have:=HS2.out;show _≠_;omega
 have HB3:=z2w s3
 clear hf hbo hnx hnil hw3 s1 s2 s3 TW TF HF HG HBO TX HTK HF2 HG2 H TW2 TF2
 go_upto_region 4 with (refine ze rfl _ _ rfl rfl rfl S1.out (j4 _ _ _ _ _ _ _ _ _ _) (qd _ _ _ _ _) ?_)
 rw[S7.out]
 clear S7 S1
 have HST:Hid ((M.bad=0∧o'=none∧∃A2 c2,Ga w3 base g M A2 c2 none∧Nx w (.slice A m.blk.length c) (.slice A2 M.blk.length c2))∨(M.bad≠0∧M.Ok∧∃p old,o'=some p∧Row w3 p 174 #[.int .u8 1,.int .u32 M.bad]∧Row w3 g 147 old∧old.size=6)):=by
  rcases hst with ⟨q1,q2,A2,c2,q3,q4⟩|⟨q1,q2,p,old,q3,q4,q5,q6⟩
  ·exact .inl ⟨q1,q2,A2,c2,Ga.below q3 HB3.out,q4.from HW1.out⟩
  ·exact .inr ⟨q1,q2,p,old,q3,Row.below q4 HB3.out (Row.lt q4),Row.below q5 HB3.out (Row.lt q5),q6⟩
 clear hst HB3 HW1
 generalize w2.heap.size=pt at *
 rcases HST.out with ⟨hb0,rfl,A2,c2,hga,hn2⟩|⟨hb0,hok,p,old,rfl,hp,hrg,hsz⟩
 ·have HGAq:=z2w hga
  have HN2:=z2w hn2
  have HB0:=z2w hb0
  have HOFq:Hid (Calls Tryz.prog 111 #[.nilIface] w3.drew λe w'=>e=.returned (.agg (xt 0 0))∧Below w3.drew.heap.size w3.drew w'):=z0g _
  have TWq:=TW3
  have TFq:=TF3
  have Sq:=S2
  have HFq:=HF3
  have HBOq:=HBO3
  clear HST hga hn2 hb0 TW3 TF3 S2 HF3 HBO3 HG3 HNE
  rw[Ql]
  go_wp2_with fail
  have TW4:Hid (Row w3.drew (w.heap.size+1) 128 (whc 0 none 0 0 false)):=TWq.out
  have TF4:Hid (Row w3.drew (w.heap.size+2) 29 (xt 0 0)):=TFq.out
  have S4:Hid (Row w3.drew pt 128 (whc W.st A' W.blk.length c' W.en)):=Sq.out
  have HF4:Hid (Fs (gvS g (.slice A m.blk.length c)) w w3.drew):=HFq.out.drewN 1
  have HBO4:Hid (Bo w3.drew base 5 (.slice A' W.blk.length c') W.blk):=HBOq.out
  have HGA4:Hid (Ga w3.drew base g M A2 c2 none):=HGAq.out.keep rfl (λ_ _=>rfl) (λ_ _=>rfl)
  have HOF4:Hid (Calls Tryz.prog 111 #[.nilIface] w3.drew λe w'=>e=.returned (.agg (xt 0 0))∧Below w3.drew.heap.size w3.drew w'):=HOFq.out
  refine wp_region_held_drew (S:=λw'=>Row w' pt 128 (whc W.st A' W.blk.length c' W.en)) (by kernel_rfl) S4.out (λhHeld=>?_)
  clear TWq TFq Sq HFq HBOq HGAq HOFq
  generalize w3.drew=w4 at *
  clear hHeld
  have hHeld:Row w4 pt 128 (whc W.st A' W.blk.length c' W.en):=S4.out
  refine tkY 0 rfl (Q0 (by rfl) _ rfl rfl (qd _ _ _ _ _) (λ_ hSw=>hSw)) ?_
  refine tkH 1 ?_
  refine tkH 2 ?_
  refine rdH 3 λK hK=>?_
  go_simp
  go_at_call 111
  refine HOF4.out.mono ?_
  rintro e w5 ⟨rfl,hb5⟩
  have TW5:Hid (Row w5 (w.heap.size+1) 128 (whc 0 none 0 0 false)):=TW4.out.below hb5 TW4.out.lt
  have TF5:Hid (Row w5 (w.heap.size+2) 29 (xt 0 0)):=TF4.out.below hb5 TF4.out.lt
  have S5:Hid (Row w5 pt 128 (whc W.st A' W.blk.length c' W.en)):=S4.out.below hb5 S4.out.lt
  have HF5:=z2w (HF4.out.then_below hb5)
  have HBO5:Hid (Bo w5 base 5 (.slice A' W.blk.length c') W.blk):=OwS.below HBO4.out hb5
  have HGA5:=z2w (HGA4.out.below hb5)
  clear TW4 TF4 S4 HF4 HBO4 HGA4 HOF4 hb5 hHeld
  refine hK.out _ _ S5.out (λhHeld=>?_)
  clear hK K
  try refine ptk ?_
  refine rdH 4 λK hK=>?_
  refine qq (cs:=whc W.st A' W.blk.length c' W.en) rfl _ _ rfl rfl rfl TW5.out (j4 _ _ _ _ _ _ _ _ _ _) (qd _ _ _ _ _) ?_
  have S6:=z2w (S5.out.row_far HPW.out (whc W.st A' W.blk.length c' W.en))
  have TW6:=z2w (TW5.out.setRow (whc W.st A' W.blk.length c' W.en))
  have TF6:=z2w (TF5.out.row_far (Row.ne TF5.out TW5.out (by decide)) (whc W.st A' W.blk.length c' W.en))
  have HF6:=z2w (HF5.out.setRow (g:=w.heap.size+1) (λh=>absurd h (by omega)) (whc W.st A' W.blk.length c' W.en))
  have HBO6:=z2w (HBO5.out.row_far (HBO5.out.ne TW5.out (by decide)) (whc W.st A' W.blk.length c' W.en))
  have HGA6:=z2w (HGA5.out.row_far TW5.out (whc W.st A' W.blk.length c' W.en))
  clear TW5 TF5 S5 HF5 HBO5 HGA5 hHeld
  refine hK.out _ _ S6.out (λhHeld=>?_)
  clear hK K
  generalize w5.setRow (w.heap.size+1) (whc W.st A' W.blk.length c' W.en)=w6 at *
  try refine ptk ?_
  refine tkH 5 ?_
  refine rdH 6 λK hK=>?_
  refine qq (cs:=(xt 0 0)) rfl _ _ rfl rfl rfl TF6.out (znj _ _ _ _) (zb9 _ _) ?_
  refine hK.out _ _ (S6.out.row_far (Row.ne S6.out TF6.out (by decide)) _) (λhHeld=>?_)
  clear hK K hHeld
  try refine ptk ?_
  refine dnH ?_
  go_wp2_with fail
  refine bodyPost_ret (zjd rfl _ rfl (TW6.out.row_far (Row.ne TW6.out TF6.out (by decide)) _) (qd _ _ _ _ _) rfl rfl (TF6.out.setRow _) (zb9 _ _)) rfl ?_
  refine⟨A',c',by unfold ftb;rw[HB0.out];rfl,HF6.out.setRow (g:=w.heap.size+2) (λh=>absurd h (by omega)) _,HBO6.out.row_far (HBO6.out.ne TF6.out (by decide)) _,HNX.out,HNL.out,A2,c2,none,HGA6.out.fault_far TF6.out _,HN2.out⟩
 ·obtain⟨b,rfl⟩:∃b,M=gmF b:=⟨M.bad,hok.idle (by
   cases hbz:M.busy
   ·rfl
   ·exact absurd (hok.good hbz) hb0)⟩
  have hpr:Row w3 p 174 #[.int .u8 1,.int .u32 b]:=hp
  have HB0:Hid (b≠0):=hb0
  have HOG:=z2w hrg
  have HSZ:Hid (old.size=6):=hsz
  have HBD:Hid (b≤11):=hok.bd
  have HGAq:Hid (Ga (w3.setRow g (gac 0 none 0 0 false false 0 (some p))) base g (gmF b) none 0 (some p)):=
   ⟨HOG.out.setRow _,Bo.nil,λ_=>⟨rfl,rfl⟩,.inr ⟨p,rfl,HB0.out,hpr.row_far (Row.ne hpr HOG.out (by decide)) _⟩,zoo HBD.out,HLO.out⟩
  have TWq:=z2w (TW3.out.row_far (Row.ne TW3.out HOG.out (by decide)) (gac 0 none 0 0 false false 0 (some p)))
  have TFq:=z2w (TF3.out.row_far (Row.ne TF3.out HOG.out (by decide)) (gac 0 none 0 0 false false 0 (some p)))
  have Sq:=z2w (S2.out.row_far (Row.ne S2.out HOG.out (by decide)) (gac 0 none 0 0 false false 0 (some p)))
  have HFq:=z2w (HF3.out.setRow (g:=g) (λ_=>.inl rfl) (gac 0 none 0 0 false false 0 (some p)))
  have HBOq:=z2w (HBO3.out.row_far (HBO3.out.ne HOG.out (by decide)) (gac 0 none 0 0 false false 0 (some p)))
  have HGq:Hid (GlobE (w3.setRow g (gac 0 none 0 0 false false 0 (some p))).drew):=GlobE.fsY (w:=w3) HG3.out ((Fs.refl (gvS g (.slice A m.blk.length c)) w3).setRow (g:=g) (λ_=>.inl rfl) _ |>.drewN 1) HNE.out
  have HPq:Hid (Row (w3.setRow g (gac 0 none 0 0 false false 0 (some p))).drew p 174 #[.int .u8 1,.int .u32 b]):=hpr.row_far (Row.ne hpr HOG.out (by decide)) _
  have HOFq:Hid (Calls Tryz.prog 111 #[.iface 172 (.pointer (some ⟨p,0,none⟩))] (w3.setRow g (gac 0 none 0 0 false false 0 (some p))).drew λe w'=>e=.returned (.agg (xt 1 b))∧Below (w3.setRow g (gac 0 none 0 0 false false 0 (some p))).drew.heap.size (w3.setRow g (gac 0 none 0 0 false false 0 (some p))).drew w'):=z0a HPq.out HGq.out
  clear HST hp hrg hsz hb0 hok hpr HGq HPq TW3 TF3 S2 HF3 HBO3 HG3 HNE
  rw[zgh]
  go_wp2_with (first|(refine zn rfl 147 _ rfl (gac 0 none 0 0 false false 0 (some p)) (by kernel_rfl) ?_)|(refine ze (cs:=gac 0 none 0 0 false false 0 (some p)) rfl _ _ rfl rfl rfl HOG.out (by rw[Qc];exact HSZ.out) (ztp _ _ _ _ _ _ _ _) ?_))
  clear HOG HSZ
  generalize w3.setRow g (gac 0 none 0 0 false false 0 (some p))=w3' at *
  have TW4:Hid (Row w3'.drew (w.heap.size+1) 128 (whc 0 none 0 0 false)):=TWq.out
  have TF4:Hid (Row w3'.drew (w.heap.size+2) 29 (xt 0 0)):=TFq.out
  have S4:Hid (Row w3'.drew pt 128 (whc W.st A' W.blk.length c' W.en)):=Sq.out
  have HF4:Hid (Fs (gvS g (.slice A m.blk.length c)) w w3'.drew):=HFq.out.drewN 1
  have HBO4:Hid (Bo w3'.drew base 5 (.slice A' W.blk.length c') W.blk):=HBOq.out
  have HGA4:Hid (Ga w3'.drew base g (gmF b) none 0 (some p)):=HGAq.out.keep rfl (λ_ _=>rfl) (λ_ _=>rfl)
  have HOF4:Hid (Calls Tryz.prog 111 #[.iface 172 (.pointer (some ⟨p,0,none⟩))] w3'.drew λe w'=>e=.returned (.agg (xt 1 b))∧Below w3'.drew.heap.size w3'.drew w'):=HOFq.out
  refine wp_region_held_drew (S:=λw'=>Row w' pt 128 (whc W.st A' W.blk.length c' W.en)) (by kernel_rfl) S4.out (λhHeld=>?_)
  clear TWq TFq Sq HFq HBOq HGAq HOFq
  generalize w3'.drew=w4 at *
  clear hHeld
  have hHeld:Row w4 pt 128 (whc W.st A' W.blk.length c' W.en):=S4.out
  refine tkY 0 rfl (Q0 (by rfl) _ rfl rfl (qd _ _ _ _ _) (λ_ hSw=>hSw)) ?_
  refine tkH 1 ?_
  refine tkH 2 ?_
  refine rdH 3 λK hK=>?_
  go_simp
  go_at_call 111
  refine HOF4.out.mono ?_
  rintro e w5 ⟨rfl,hb5⟩
  have TW5:Hid (Row w5 (w.heap.size+1) 128 (whc 0 none 0 0 false)):=TW4.out.below hb5 TW4.out.lt
  have TF5:Hid (Row w5 (w.heap.size+2) 29 (xt 0 0)):=TF4.out.below hb5 TF4.out.lt
  have S5:Hid (Row w5 pt 128 (whc W.st A' W.blk.length c' W.en)):=S4.out.below hb5 S4.out.lt
  have HF5:=z2w (HF4.out.then_below hb5)
  have HBO5:Hid (Bo w5 base 5 (.slice A' W.blk.length c') W.blk):=OwS.below HBO4.out hb5
  have HGA5:=z2w (HGA4.out.below hb5)
  clear TW4 TF4 S4 HF4 HBO4 HGA4 HOF4 hb5 hHeld
  refine hK.out _ _ S5.out (λhHeld=>?_)
  clear hK K
  try refine ptk ?_
  refine rdH 4 λK hK=>?_
  refine qq (cs:=whc W.st A' W.blk.length c' W.en) rfl _ _ rfl rfl rfl TW5.out (j4 _ _ _ _ _ _ _ _ _ _) (qd _ _ _ _ _) ?_
  have S6:=z2w (S5.out.row_far HPW.out (whc W.st A' W.blk.length c' W.en))
  have TW6:=z2w (TW5.out.setRow (whc W.st A' W.blk.length c' W.en))
  have TF6:=z2w (TF5.out.row_far (Row.ne TF5.out TW5.out (by decide)) (whc W.st A' W.blk.length c' W.en))
  have HF6:=z2w (HF5.out.setRow (g:=w.heap.size+1) (λh=>absurd h (by omega)) (whc W.st A' W.blk.length c' W.en))
  have HBO6:=z2w (HBO5.out.row_far (HBO5.out.ne TW5.out (by decide)) (whc W.st A' W.blk.length c' W.en))
  have HGA6:=z2w (HGA5.out.row_far TW5.out (whc W.st A' W.blk.length c' W.en))
  clear TW5 TF5 S5 HF5 HBO5 HGA5 hHeld
  refine hK.out _ _ S6.out (λhHeld=>?_)
  clear hK K
  generalize w5.setRow (w.heap.size+1) (whc W.st A' W.blk.length c' W.en)=w6 at *
  try refine ptk ?_
  refine tkH 5 ?_
  refine rdH 6 λK hK=>?_
  refine qq (cs:=(xt 1 b)) rfl _ _ rfl rfl rfl TF6.out (znj _ _ _ _) (zb9 _ _) ?_
  refine hK.out _ _ (S6.out.row_far (Row.ne S6.out TF6.out (by decide)) _) (λhHeld=>?_)
  clear hK K hHeld
  try refine ptk ?_
  refine dnH ?_
  go_wp2_with fail
  refine bodyPost_ret (zjd rfl _ rfl (TW6.out.row_far (Row.ne TW6.out TF6.out (by decide)) _) (qd _ _ _ _ _) rfl rfl (TF6.out.setRow _) (zb9 _ _)) rfl ?_
  refine⟨A',c',by unfold ftb;rw[if_neg (by exact HB0.out)];rfl,HF6.out.setRow (g:=w.heap.size+2) (λh=>absurd h (by omega)) _,HBO6.out.row_far (HBO6.out.ne TF6.out (by decide)) _,HNX.out,HNL.out,none,0,some p,HGA6.out.fault_far TF6.out _,Nx.none _ _⟩
end
section
theorem zbi{w:World}{g st:Nat}{A:Option Addr}{n c:Nat}{en:Bool}(h:Row w g 128 (whc st A n c en)):w.cell? ⟨g,0,none⟩=some (.int .u32 st)∧w.cell? ⟨g,1,none⟩=some (.slice A n c)∧w.cell? ⟨g,2,none⟩=some (.bool en):=⟨h.cell rfl,h.cell rfl,h.cell rfl⟩
attribute [local irreducible] whc xt
end
end Go.Proofs.YtooaajnkiokpnaaGreatDoor
