/-
  Part of a proof: What an encoder writes is read as it was: over plain lists. No program; no conditions but those that each theorem names. Conditions: those that each theorem names.
-/
import Derived.Test.YtooaajnkiokpnaaGreatDoorQ07
import Derived.Test.YtooaajnkiokpnaaGreatDoorQ17
import Derived.Test.YtooaajnkiokpnaaGreatDoorQ05
import Derived.Test.YtooaajnkiokpnaaGreatDoorQ01
import Derived.Test.YtooaajnkiokpnaaGreatDoorQ11
import Derived.Test.YtooaajnkiokpnaaGreatDoorQ16
import Derived.Maps.Own
import Derived.Maps.Views
import Derived.Maps.OwnSet
import Derived.DeepKeys4
import Derived.MapViews
import Derived.Test.YtooaajnkiokpnaaGreatDoorQ04
namespace Go.Proofs.YtooaajnkiokpnaaGreatDoor
open Go.RowKit Go.WideShapes
set_option maxHeartbeats 2000000
set_option maxRecDepth 100000
section
attribute [local irreducible] tot shr sz
theorem zjn{base g most:Nat}{v:Value}{L:List Fd}{w:World}(f:Fd)(hf:sz f≤2147483648)(hm:most≤4294967296)(hL:tot L≤4294967296)(hs:∀f∈L,sz f≤2147483648)(h:Tb w base g v L most) :
  Calls Tryz.prog 146 #[pt g,fv f] w λe w'=>e=.returned (.tuple #[])∧∃v',Tb w' base g v' (yw most f L) most∧Fr g v.ownBlock w w'∧Nx w v v':=by
 have hsz:=zbj f hf
 have hsh:=@zcv base g most v L
 unfold pt fv tx at *
 go_enter Tryz.func146,Tryz.ntmps146
 go_wp2_with fail
 refine(hsz _).mono ?_
 rintro e w1 ⟨rfl,hb1⟩
 have hR1:Row w1 w.heap.size 57 #[.string ⟨f.nm.toArray⟩,.string ⟨f.vl.toArray⟩,.bool f.nv]:=(Row.new w 57 _).below hb1 (by simp)
 have hT1:Tb w1 base g v L most:=(h.alloc _).below hb1
 have c2:=hT1.own.c2
 have HF1:Hid (Fr g v.ownBlock w w1):=((Fr.refl w).alloc _).then_below hb1
 have hlt:=h.lt
 have hlt2:=λk hk=>(h.row.lt k hk).2
 have H:=z2w h
 clear h hb1
 go_wp2_with fail
 refine(hsh ((most:Int)-(sz f:Int)) hL hs hT1).mono ?_
 rintro e w2 ⟨rfl,v1,hT2,hF2,ho2⟩
 have hR2:=hF2.row (b:=w.heap.size) (by omega) (λe=>by have:=hlt2 _ e.symm;omega) hR1
 have HF2:=z2w (HF1.out.trans hF2 (.inl rfl))
 have HO2:=z2w ho2
 have d2:=hT2.own.c2
 have HT2:=z2w hT2
 have HR2:=z2w hR2
 have HV:=z2w hlt2
 clear hF2 ho2 hT1 c2 hR1 HF1 hlt2 hT2 hR2 hsh
 by_cases hgt:most<sz f
 ·have hA:Hid (yw most f L=shr ((most:Int)-(sz f:Int)) L):=by show _=_;unfold yw;rw[if_pos hgt]
  have hgi:(most:Int)<(sz f:Int):=by omega
  go_wp2_with fail
  refine bodyPost_ret (results_none rfl _ _ _) rfl ?_
  refine⟨rfl,v1,?_,HF2.out,.inl HO2.out⟩
  rw[hA.out]
  exact HT2.out
 ·have hA:Hid (yw most f L=shr ((most:Int)-(sz f:Int)) L++[bare f]):=by show _=_;unfold yw;rw[if_neg hgt]
  have hgd:decide ((most:Int)<(sz f:Int))=false:=by simp;omega
  go_wp2_with fail
  have hL1:tot (shr ((most:Int)-(sz f:Int)) L)+sz f≤most:=by
   have:=zh7 ((most:Int)-(sz f:Int)) (by omega) L
   omega
  generalize shr ((most:Int)-(sz f:Int)) L=L1 at HT2 hA hL1
  obtain⟨A1,c1,rfl,hc1,hc2⟩:=HT2.out.shape
  have hln:=Qr L1
  have hn1:L1.length+1≤134217729:=by omega
  obtain⟨i0,hi0,hz0,hz1,hz2⟩:=Yb
  have hcx:=zfg f.nm (by have:f.nm.length≤sz f:=(by unfold sz;omega);omega)
  have hcy:=zfg f.vl (by have:f.vl.length≤sz f:=(by unfold sz;omega);omega)
  have hgB:w.heap.size≠g:=by omega
  have hbg:base≤g:=HT2.out.low
  have d0:w2.drew.cell? ⟨g,0,none⟩=some (.slice A1 L1.length c1):=HT2.out.own.c0
  have d1:w2.drew.cell? ⟨w.heap.size,0,none⟩=some (.string ⟨f.nm.toArray⟩):=HR2.out.cell (j:=0) rfl
  have d2:w2.drew.cell? ⟨w.heap.size,1,none⟩=some (.string ⟨f.vl.toArray⟩):=HR2.out.cell (j:=1) rfl
  have HTd:Hid (Tb w2.drew base g (.slice A1 L1.length c1) L1 most):=HT2.out.drewN 1
  have HFd:Hid (Fr g v.ownBlock w w2.drew):=HF2.out.drewN 1
  refine qg 16 (λw'=>w'.cell? ⟨g,0,none⟩=some (.slice A1 L1.length c1)∧w'.cell? ⟨w.heap.size,0,none⟩=some (.string ⟨f.nm.toArray⟩)∧w'.cell? ⟨w.heap.size,1,none⟩=some (.string ⟨f.vl.toArray⟩)) (by kernel_rfl) ⟨d0,d1,d2⟩ (λhHeld=>?_)
  refine tkE 0 ?_
  refine tkE 1 ?_
  refine tkE 2 ?_
  refine tkE 3 ?_
  refine tkE 4 ?_
  refine tkE 5 ?_
  refine tkE 6 ?_
  refine tkE 8 ?_
  refine tkE 9 ?_
  refine zm (i:=7) (by kernel_rfl) rfl (λK hK=>?_)
  go_simp
  go_at_call 184
  refine(hcx _).mono ?_
  rintro e w3 ⟨rfl,hb3⟩
  have k0:=(hb3.cell (p:=⟨g,0,none⟩) (World.block_lt_of_cell? _ _ d0)).trans d0
  have k1:=(hb3.cell (p:=⟨w.heap.size,0,none⟩) (World.block_lt_of_cell? _ _ d1)).trans d1
  have k2:=(hb3.cell (p:=⟨w.heap.size,1,none⟩) (World.block_lt_of_cell? _ _ d2)).trans d2
  have HT3:=z2w (HTd.out.below hb3)
  have HF3:=z2w (HFd.out.then_below hb3)
  clear hb3 HTd HFd
  go_simp
  refine hK.out _ _ ⟨k0,k1,k2⟩ (λhHeld=>?_)
  clear hK K
  try refine ptk ?_
  refine zm (i:=10) (by kernel_rfl) rfl (λK hK=>?_)
  go_simp
  go_at_call 184
  refine(hcy _).mono ?_
  rintro e w4 ⟨rfl,hb4⟩
  have l0:=(hb4.cell (p:=⟨g,0,none⟩) (World.block_lt_of_cell? _ _ k0)).trans k0
  have l1:=(hb4.cell (p:=⟨w.heap.size,0,none⟩) (World.block_lt_of_cell? _ _ k1)).trans k1
  have l2:=(hb4.cell (p:=⟨w.heap.size,1,none⟩) (World.block_lt_of_cell? _ _ k2)).trans k2
  have HT4:=z2w (HT3.out.below hb4)
  have HF4:=z2w (HF3.out.then_below hb4)
  clear hb4 HT3 HF3
  go_simp
  refine hK.out _ _ ⟨l0,l1,l2⟩ (λhHeld=>?_)
  clear hK K
  try refine ptk ?_
  refine tkE 11 ?_
  refine zm (i:=12) (by kernel_rfl) rfl (λK hK=>?_)
  go_simp
  have m0:=(World.cell?_alloc_lt w4 (.cells #[.string ⟨f.nm.toArray⟩,.string ⟨f.vl.toArray⟩,.bool false] 57) ⟨g,0,none⟩ (World.block_lt_of_cell? _ _ l0)).trans l0
  have m1:=(World.cell?_alloc_lt w4 (.cells #[.string ⟨f.nm.toArray⟩,.string ⟨f.vl.toArray⟩,.bool false] 57) ⟨w.heap.size,0,none⟩ (World.block_lt_of_cell? _ _ l1)).trans l1
  have m2:=(World.cell?_alloc_lt w4 (.cells #[.string ⟨f.nm.toArray⟩,.string ⟨f.vl.toArray⟩,.bool false] 57) ⟨w.heap.size,1,none⟩ (World.block_lt_of_cell? _ _ l2)).trans l2
  have HT5:=z2w (HT4.out.alloc (.cells #[.string ⟨f.nm.toArray⟩,.string ⟨f.vl.toArray⟩,.bool false] 57))
  have HF5:=z2w (HF4.out.alloc (.cells #[.string ⟨f.nm.toArray⟩,.string ⟨f.vl.toArray⟩,.bool false] 57))
  have HN5:=z2w (World.news_of_block (heap_alloc_last w4 (.cells #[.string ⟨f.nm.toArray⟩,.string ⟨f.vl.toArray⟩,.bool false] 57)))
  refine hK.out _ _ ⟨m0,m1,m2⟩ (λhHeld=>?_)
  clear hK K
  try refine ptk ?_
  generalize w4.alloc (.cells #[.string ⟨f.nm.toArray⟩,.string ⟨f.vl.toArray⟩,.bool false] 57)=w5 at *
  refine zm (i:=13) (by kernel_rfl) rfl (λK hK=>?_)
  refine Zr rfl (.tmp 27) (.tmp 35) 23 rfl base 57 i0 _ 3 40 Tryz.underlying23 hi0 hz0 hz1 hz2 rfl (.slice A1 L1.length c1) L1.length (enl fdc L1) rfl HT5.out.row ⟨w4.heap.size,0,none⟩ 1 1 (fdc (bare f)) rfl rfl HN5.out (zj1 _) (by omega) (by simp only[maxLen];omega) (by omega) ?_ ?_
  ·have:=HT5.out.lt
   omega
  intro A6 c6 w6 hO6 hg6 hb6
  have hgn:some g≠(Value.slice A1 L1.length c1).ownBlock:=λe=>HT5.out.ne e.symm
  have hbn:some w.heap.size≠(Value.slice A1 L1.length c1).ownBlock:=λe=>by
   have:=HV.out _ (HO2.out.symm.trans e.symm)
   omega
  have n0:=(hg6.cell_far ⟨g,0,none⟩ (World.block_lt_of_cell? _ _ m0) hgn).trans m0
  have n1:=(hg6.cell_far ⟨w.heap.size,0,none⟩ (World.block_lt_of_cell? _ _ m1) hbn).trans m1
  have n2:=(hg6.cell_far ⟨w.heap.size,1,none⟩ (World.block_lt_of_cell? _ _ m2) hbn).trans m2
  have hT6:TabR w6 g (.slice A1 L1.length c1) (tot L1) most:=(hg6.block g HT5.out.lt hgn).trans HT5.out.own
  have hthaw:=Row.thawed hT6 0
  have hne6:(Value.slice A6 (L1.length+1) c6).ownBlock≠some g:=by
   rcases hb6 with e|e
   ·rw[e];exact HT5.out.ne
   ·rw[e]
    have:=HT5.out.lt
    intro e
    injection e with e
    omega
  have HT7:Hid (TabR (w6.setCell ⟨g,0,none⟩ (.slice A6 (L1.length+1) c6)) g (.slice A6 (L1.length+1) c6) (tot L1) most):=Row.stored hT6 0 _
  have HO7:=z2w (hO6.setCell (a:=⟨g,0,none⟩) hne6 (.slice A6 (L1.length+1) c6))
  have HF7:Hid (Fr g v.ownBlock w (w6.setCell ⟨g,0,none⟩ (.slice A6 (L1.length+1) c6))):=(HF5.out.trans (Fr.of_grown hg6) (.inl HO2.out)).setCell 0 _
  have HX:Hid (Nx w v (.slice A6 (L1.length+1) c6)):=by
   rcases hb6 with e|e
   ·exact .inl (e.trans HO2.out)
   ·refine .inr λk hk=>?_
    rw[e] at hk
    injection hk with hk
    have:=HF5.out.size
    omega
  have HNE:=z2w hne6
  have HT6:=z2w hT6
  clear hg6 hb6 hgn hbn hO6 hne6 m0 m1 m2 l0 l1 l2 k0 k1 k2 d0 d1 d2 hT6
  refine hK.out _ _ ⟨n0,n1,n2⟩ (λhHeld=>?_)
  clear hK K
  try refine ptk ?_
  refine tkE 14 ?_
  refine tkE 15 ?_
  refine qh (by kernel_rfl) rfl (by kernel_rfl) (λK hK=>?_)
  go_simp
  refine hK.out _ _ ?_
  clear hK K
  try refine ptk ?_
  generalize w6.setCell ⟨g,0,none⟩ (.slice A6 (L1.length+1) c6)=w7 at *
  have p1:=HT7.out.c1
  have hthaw7:=Row.thawed HT7.out 1
  have hsum:(tot L1:Int)+(sz f:Int)=((tot (L1++[bare f]):Nat):Int):=by
   have:tot (L1++[bare f])=tot L1+sz f:=by rw[zgb,zjy]
   omega
  have hb2:tot L1≤4294967296:=by omega
  generalize hT8:tot (L1++[bare f])=T8 at hsum
  have HT8:Hid (TabR (w7.setCell ⟨g,1,none⟩ (.int .i64 (T8:Int))) g (.slice A6 (L1.length+1) c6) T8 most):=Row.stored HT7.out 1 _
  have HO8:=z2w (HO7.out.setCell (a:=⟨g,1,none⟩) HNE.out (.int .i64 (T8:Int)))
  have HF8:=z2w (HF7.out.setCell 1 (.int .i64 (T8:Int)))
  have HE:=z2w hT8
  clear hT8
  go_wp2_with fail
  go_end0
  refine⟨rfl,.slice A6 (L1.length+1) c6,⟨?_,?_,HNE.out,hbg⟩,HF8.out,HX.out⟩
  ·rw[hA.out,HE.out]
   exact HT8.out
  ·rw[hA.out,List.length_append,jq,Zb]
   exact HO8.out
theorem X3{base g most:Nat}{v:Value}{L:List Fd}{w:World}(m:Nat)(hm:m<4294967296)(hL:tot L≤4294967296)(hs:∀f∈L,sz f≤2147483648)(h:Tb w base g v L most) :
  Calls Tryz.prog 170 #[pt g,.int .u32 (m:Int)] w λe w'=>e=.returned (.tuple #[])∧∃v',Tb w' base g v' (shr m L) m∧Fr g v.ownBlock w w'∧v'.ownBlock=v.ownBlock:=by
 have hT:Tb (w.setCell ⟨g,2,none⟩ (.int .i64 (m:Int))) base g v L m:=⟨Row.stored h.own 2 _,h.row.setCell h.ne _,h.ne,h.low⟩
 have hsh:=zcv (m:Int) hL hs hT
 have c2:=h.own.c2
 have d2:=hT.own.c2
 have hth:=Row.thawed h.own 2
 have HF:Hid (Fr g v.ownBlock w (w.setCell ⟨g,2,none⟩ (.int .i64 (m:Int)))):=(Fr.refl w).setCell 2 _
 clear h hT
 unfold pt at *
 go_enter Tryz.func170,Tryz.ntmps170
 go_wp2_with fail
 refine hsh.mono ?_
 rintro e w1 ⟨rfl,v1,hT1,hF1,ho1⟩
 have HT1:=z2w hT1
 have HF1:=z2w (HF.out.trans hF1 (.inl rfl))
 have HO1:=z2w ho1
 clear hT1 hF1 ho1 hsh
 go_wp2_with fail
 go_end0
 exact⟨rfl,v1,HT1.out,HF1.out,HO1.out⟩
end
section
def zhp(s:List UInt8):Nat:=(j8 s+7) / 8
def Qi(s:List UInt8):List UInt8:=if zhp s<s.length then Z7 7 128 (zhp s)++ve s else Z7 7 0 s.length++s
def qy(kind:Nat):Nat:=if kind=128 then 7 else if kind=64 then 6 else if kind=32 then 5 else 4
def Ja(kind n:Nat):List UInt8:=Z7 (qy kind) kind n
def Jh(kind n:Nat)(f:Fd):List UInt8:=Ja kind n++((if n=0 then Qi f.nm else [])++Qi f.vl)
def nOf(L:List Fd)(f:Fd):Nat:=Qp f.nm f.vl L.reverse
def hOf(L:List Fd)(f:Fd):Bool:=Jn f.nm f.vl L.reverse
def Z9(L:List Fd)(f:Fd):List UInt8:=if f.nv then Jh 16 (nOf L f) f else if hOf L f then Ja 128 (nOf L f) else Jh 64 (nOf L f) f
def Zf(M:Nat)(L:List Fd)(f:Fd):List Fd:=if f.nv then L else if hOf L f then L else yw M f L
def xr(M:Nat):List Fd→List Fd→List UInt8
 |_,[]=>[]
 |L,f :: r=>Z9 L f++xr M (Zf M L f) r
def jk(M:Nat):List Fd→List Fd→List Fd
 |L,[]=>L
 |L,f :: r=>jk M (Zf M L f) r
def Xe(lim:Bool)(low M:Nat):List UInt8:=if lim then (if low<M then Ja 32 low else [])++Ja 32 M else []
theorem zet(M:Nat)(f:Fd):∀(r L:List Fd),xr M L (r++[f])=xr M L r++Z9 (jk M L r) f
 |[],L=>by simp[xr,jk]
 |a :: r,L=>by simp only[List.cons_append,xr,jk,zet M f r,List.append_assoc]
theorem ze2(M:Nat)(f:Fd):∀(r L:List Fd),jk M L (r++[f])=Zf M (jk M L r) f
 |[],L=>by simp[jk]
 |a :: r,L=>by simp only[List.cons_append,jk,ze2 M f r]
theorem zpo{M:Nat}{L r:List Fd}{k:Nat}(hk:k<r.length):xr M L (r.take (k+1))=xr M L (r.take k)++Z9 (jk M L (r.take k)) r[k]:=by
 rw[List.take_succ_eq_append_getElem hk,zet]
theorem zn4{M:Nat}{L r:List Fd}{k:Nat}(hk:k<r.length):jk M L (r.take (k+1))=Zf M (jk M L (r.take k)) r[k]:=by
 rw[List.take_succ_eq_append_getElem hk,ze2]
theorem zdd(s:List UInt8):(Qi s).length≤s.length+5:=by
 unfold Qi
 split
 ·have:=(Xg 7 128 (zhp s)).2
  rw[List.length_append,zbq]
  unfold zhp at *
  omega
 ·have:=(Xg 7 0 s.length).2
  rw[List.length_append]
  omega
theorem Jm(k n:Nat):(Ja k n).length≤5:=(Xg _ _ _).2
theorem zi4(k n:Nat)(f:Fd):(Jh k n f).length≤f.nm.length+f.vl.length+15:=by
 unfold Jh
 have h1:=Jm k n
 have h2:=zdd f.vl
 have h3:=zdd f.nm
 simp only[List.length_append]
 split
 ·omega
 ·simp;omega
theorem zq2(L:List Fd)(f:Fd):(Z9 L f).length≤f.nm.length+f.vl.length+15:=by
 unfold Z9
 split
 ·exact zi4 _ _ _
 ·split
  ·have:=Jm 128 (nOf L f);omega
  ·exact zi4 _ _ _
theorem zwe{M:Nat}{L:List Fd}{f:Fd}(h:tot L≤M):tot (Zf M L f)≤M:=by
 unfold Zf
 split
 ·exact h
 ·split
  ·exact h
  ·exact zi2
theorem zjw{M:Nat}:∀{r L:List Fd},tot L≤M→tot (jk M L r)≤M
 |[],_,h=>h
 |_ :: r,_,h=>zjw (r:=r) (zwe h)
theorem Yj{f:Fd}{L:List Fd}(h:f∈L):sz f≤tot L:=by
 induction L with
 |nil=>simp at h
 |cons a L ih=>
  rcases List.mem_cons.1 h with rfl|h
  ·simp only[tot];omega
  ·have:=ih h;simp only[tot];omega
def hiB:List UInt8→Bool
 |[]=>false
 |b :: _=>decide (128≤b.toNat)
def yr(l:List UInt8):Option (List UInt8 × List UInt8):=
 if (zs 7 l).2.2≠0 then none
 else if (l.drop (zs 7 l).2.1).length<(zs 7 l).1 then none
 else if hiB l then
  match Qn ((l.drop (zs 7 l).2.1).take (zs 7 l).1) with
  |none=>none
  |some s=>some (s,(l.drop (zs 7 l).2.1).drop (zs 7 l).1)
 else some ((l.drop (zs 7 l).2.1).take (zs 7 l).1,(l.drop (zs 7 l).2.1).drop (zs 7 l).1)
def atT(L:List Fd)(n:Nat):Option Fd:=if n=0 then none else if n≤61 then some ⟨nmL (n-1),vlL (n-1),false⟩ else L.reverse[n-62]?
def Qe(L:List Fd)(n:Nat)(l:List UInt8):Option (List UInt8 × List UInt8):=if n=0 then yr l else match atT L n with
 |none=>none
 |some f=>some (f.nm,l)
def jo(L:List Fd)(n:Nat)(nv:Bool)(l:List UInt8):Option (Fd × List UInt8):=match Qe L n l with
 |none=>none
 |some (a,r)=>match yr r with
  |none=>none
  |some (b,r')=>some (⟨a,b,nv⟩,r')
def xe(b:Nat):Nat:=if 128≤b then 128 else if 64≤b then 64 else if 32≤b then 32 else if 16≤b then 16 else 0
structure RdK where
 tb:List Fd
 mx:Nat
 out:List Fd
def xl(cap:Nat)(s:RdK)(l:List UInt8):Option (RdK × List UInt8):=
 let k:=xe ((l.headD 0).toNat)
 let g:=zs (qy k) l
 if g.2.2≠0 then none
 else if k=32 then (if s.out≠[]∨cap<g.1 then none else some (⟨shr (g.1:Int) s.tb,g.1,s.out⟩,l.drop g.2.1))
 else if k=128 then match atT s.tb g.1 with
  |none=>none
  |some f=>some (⟨s.tb,s.mx,s.out++[f]⟩,l.drop g.2.1)
 else match jo s.tb g.1 (k == 16) (l.drop g.2.1) with
  |none=>none
  |some (f,r)=>some (⟨if k=64 then yw s.mx f s.tb else s.tb,s.mx,s.out++[f]⟩,r)
def xc(cap:Nat):Nat→RdK→List UInt8→Option RdK
 |_,s,[]=>some s
 |0,_,_ :: _=>none
 |n+1,s,b :: l=>match xl cap s (b :: l) with
  |none=>none
  |some (s',r)=>xc cap n s' r
theorem znl(cap n:Nat)(s:RdK):xc cap n s []=some s:=by cases n<;>rfl
theorem zkl{cap n:Nat}{s:RdK}{l:List UInt8}(hl:l≠[])(hn:l.length≤n)(h:xl cap s l=none):xc cap n s l=none:=by
 cases l with
 |nil=>exact absurd rfl hl
 |cons b l=>cases n with
  |zero=>simp at hn
  |succ n=>simp only[xc,h]
theorem zcc{cap n:Nat}{s s':RdK}{l r:List UInt8}(hl:l≠[])(h:xl cap s l=some (s',r)):xc cap (n+1) s l=xc cap n s' r:=by
 cases l with
 |nil=>exact absurd rfl hl
 |cons b l=>simp only[xc,h]
theorem znk(l:List UInt8):∀(i acc:Nat),(qs i acc l).2.2=0→1≤(qs i acc l).2.1-i∧i<(qs i acc l).2.1∧(qs i acc l).2.1-i≤l.length:=by
 induction l with
 |nil=>intro i acc h;simp[qs] at h
 |cons b l ih=>
  intro i acc h
  unfold qs at h ⊢
  by_cases h4:i=4
  ·simp[h4] at h
  ·rw[if_neg h4] at h ⊢
   by_cases hl:b.toNat<128
   ·rw[if_pos hl] at h ⊢
    simp
   ·rw[if_neg hl] at h ⊢
    have:=ih _ _ h
    simp only[List.length_cons]
    omega
theorem Vv(k:Nat)(b:UInt8)(l:List UInt8):zs k (b :: l)=if b.toNat%2 ^ k<2 ^ k-1 then (b.toNat%2 ^ k,1,0)
  else if (qs 0 0 l).2.2≠0 then (0,0,(qs 0 0 l).2.2)
  else if 268435456-(2 ^ k-1)<(qs 0 0 l).1 then (0,0,4)
  else (2 ^ k-1+(qs 0 0 l).1,1+(qs 0 0 l).2.1,0):=rfl
theorem Vh{k:Nat}{l:List UInt8}(h:(zs k l).2.2=0):1≤(zs k l).2.1∧(zs k l).2.1≤l.length:=by
 cases l with
 |nil=>simp[zs] at h
 |cons b l=>
  rw[Vv] at h ⊢
  split
  ·simp
  ·rename_i h1
   rw[if_neg h1] at h
   split
   ·rename_i h2;rw[if_pos h2] at h;exact absurd h h2
   ·rename_i h2
    rw[if_neg h2] at h
    split
    ·rename_i h3;rw[if_pos h3] at h;simp at h
    ·have:=znk l 0 0 (by omega)
     simp only[List.length_cons]
     omega
theorem zre{k:Nat}{l:List UInt8}(h:(zs k l).2.2≠0):(zs k l).1=0∧(zs k l).2.1=0:=by
 cases l with
 |nil=>simp[zs]
 |cons b l=>
  rw[Vv] at h ⊢
  split
  ·rename_i h1;rw[if_pos h1] at h;simp at h
  ·rename_i h1
   rw[if_neg h1] at h
   split
   ·simp
   ·rename_i h2
    rw[if_neg h2] at h
    split
    ·simp
    ·rename_i h3;rw[if_neg h3] at h;simp at h
theorem zdj{k:Nat}(h1:1≤k)(h8:k≤8)(l:List UInt8):(zs k l).1≤268435456∧(zs k l).2.1≤5:=by
 have hp:=Yq h1 h8
 have hR:∀(l:List UInt8) (i acc:Nat),i≤4→(qs i acc l).2.1≤4:=by
  intro l
  induction l with
  |nil=>intro i acc hi;simp[qs]
  |cons b l ih=>
   intro i acc hi
   unfold qs
   split
   ·simp
   ·split
    ·show i+1≤4;omega
    ·exact ih _ _ (by omega)
 cases l with
 |nil=>simp[zs]
 |cons b l=>
  rw[Vv]
  split
  ·exact⟨by show b.toNat%2 ^ k≤_;omega,by show 1≤5;omega⟩
  ·split
   ·simp
   ·split
    ·simp
    ·have:=hR l 0 0 (by omega)
     exact⟨by show 2 ^ k-1+_≤_;omega,by show 1+_≤5;omega⟩
theorem zcl{l a r:List UInt8}(h:yr l=some (a,r)):r.length<l.length:=by
 unfold yr at h
 split at h
 ·cases h
 ·rename_i h0
  have hu:=Vh (k:=7) (l:=l) (by omega)
  split at h
  ·cases h
  ·split at h
   ·split at h
    ·cases h
    ·injection h with h;injection h with h1 h2;subst h2;simp;omega
   ·injection h with h;injection h with h1 h2;subst h2;simp;omega
theorem Y5{L:List Fd}{n:Nat}{l a r:List UInt8}(h:Qe L n l=some (a,r)):r.length≤l.length:=by
 unfold Qe at h
 split at h
 ·exact Nat.le_of_lt (zcl h)
 ·split at h
  ·cases h
  ·injection h with h;injection h with h1 h2;subst h2;exact Nat.le_refl _
theorem zib{L:List Fd}{n:Nat}{nv:Bool}{l r:List UInt8}{f:Fd}(h:jo L n nv l=some (f,r)):r.length<l.length∧f.nv=nv:=by
 unfold jo at h
 split at h
 ·cases h
 ·rename_i h1
  split at h
  ·cases h
  ·rename_i h2
   injection h with h;injection h with h3 h4
   subst h4 h3
   have:=Y5 h1
   have:=zcl h2
   exact⟨by omega,rfl⟩
end
section
open Go.RowKit Go.WideShapes Go.Maps
theorem zsy:laidOutB Tryz.prog=true:=by kernel_rfl
theorem zwa:(300:TypeId)<Tryz.prog.types.size:=of_decide_eq_true (by kernel_rfl)
theorem zf8:(match Tryz.prog.underlying 300 with|some (.array _ _)|some (.struct _)=>true|_=>false)=true:=by rw[Tryz.underlying300]
theorem zv0:WideMaps.KeyLaw Tryz.prog 300:=deep_law_laid zsy (m:=2) (by omega) zwa (by kernel_rfl) zf8
theorem X0:Keyed Tryz.prog 300:=Keyed.of_law zv0
theorem ziz:Tryz.prog.keyType 300=true:=by kernel_rfl
theorem zez:Tryz.prog.cellsOf 300=2:=by kernel_rfl
theorem zsh:Tryz.prog.cellsOf 24=1:=by kernel_rfl
theorem zp5:Tryz.prog.cellsOf 3=1:=by kernel_rfl
theorem zlo:Tryz.prog.types.size=354:=by kernel_rfl
theorem zin{P : Program}{k : TypeId}{f0 f1 : Field}{q0 q1 : IntKind}(hu : P.underlying k = some (.struct #[f0, f1]))(hc : P.cellsOf k = 2)(n0 : (f0.name != "_") = true)(n1 : (f1.name != "_") = true)(o0 : f0.offset = 0)(o1 : f1.offset = 1)
  (h0:P.underlying f0.type=some (.int q0)) (h1:P.underlying f1.type=some (.int q1)) (c0:P.cellsOf f0.type=1) (c1:P.cellsOf f1.type=1) {a b:Int} (wa:(Lit.int q0 a).wf=true) (wb:(Lit.int q1 b).wf=true) (d:Nat) :
  P.keyLits (d+2) k [.int q0 a,.int q1 b]=some [.int q0 a,.int q1 b]:=by
 have e0:P.keyLits (d+1) f0.type [.int q0 a]=some [.int q0 a]:=by
  unfold Program.keyLits
  simp[h0,wa]
 have e1:P.keyLits (d+1) f1.type [.int q1 b]=some [.int q1 b]:=by
  unfold Program.keyLits
  simp[h1,wb]
 rw[show d+2=(d+1)+1 from rfl]
 unfold Program.keyLits
 simp[hu,hc,n0,n1,o0,o1,c0,c1,e0,e1]
theorem zqh{x n:Nat}(hx:x<4294967296)(hn:n<9223372036854775808):∃l,keyOf Tryz.prog 300 (.agg #[.int .u32 (x:Int),.int .i64 (n:Int)])=some l:=by
 have w1:(Lit.int .u32 (x:Int)).wf=true:=by
  have h1:IntKind.u32.min=0:=rfl
  have h2:IntKind.u32.max=4294967295:=rfl
  simp only[Lit.wf,Bool.and_eq_true,decide_eq_true_eq]
  omega
 have w2:(Lit.int .i64 (n:Int)).wf=true:=by
  have h1:IntKind.i64.min = -9223372036854775808:=rfl
  have h2:IntKind.i64.max=9223372036854775807:=rfl
  simp only[Lit.wf,Bool.and_eq_true,decide_eq_true_eq]
  omega
 have hf:(Value.agg #[.int .u32 (x:Int),.int .i64 (n:Int)]).formed Tryz.prog 300=true:=by simp[Value.formed,Tryz.underlying300,zez]
 unfold keyOf
 rw[Tryz.underlying300]
 simp only[ziz,hf,Bool.and_self,if_true]
 rw[zlo]
 have h:=zin (P:=Tryz.prog) Tryz.underlying300 zez rfl rfl rfl rfl Tryz.underlying24 Tryz.underlying3 zsh zp5 w1 w2 (354-1)
 rw[show 354-1+2=354+1 from rfl] at h
 show ∃l,(Tryz.prog.keyLits (354+1) 300 [.int .u32 (x:Int),.int .i64 (n:Int)]).map _=some l
 rw[h]
 exact⟨_,rfl⟩
noncomputable def kL (x n:Nat):Lit:=(keyOf Tryz.prog 300 (.agg #[.int .u32 (x:Int),.int .i64 (n:Int)])).getD (.bool false)
theorem zah{x n:Nat}(hx:x<4294967296)(hn:n<9223372036854775808):keyOf Tryz.prog 300 (.agg #[.int .u32 (x:Int),.int .i64 (n:Int)])=some (kL x n):=by
 obtain⟨l,hl⟩:=zqh hx hn
 unfold kL
 rw[hl]
 rfl
theorem znv{x n x' n':Nat}(hx:x<4294967296)(hn:n<9223372036854775808)(hx':x'<4294967296)(hn':n'<9223372036854775808)(h:kL x n=kL x' n'):x=x'∧n=n':=by
 have h1:=zah hx hn
 have h2:=zah hx' hn'
 rw[←h] at h2
 have e:=keyOf_inj_deep (m:=2) (by kernel_rfl) zf8 h1 h2
 simp only[Value.agg.injEq,Array.mk.injEq,List.cons.injEq,Value.int.injEq] at e
 omega
noncomputable def Jf:Nat→DataW Unit
 |0=>.map []
 |k+1=>(Jf k).put (kL (cd k) (ln k)) (.lit (.int .i64 (k:Int)))
theorem zi1(k:Nat):IsMap (Jf k):=by
 induction k with
 |zero=>exact isMap_empty
 |succ k ih=>exact ih.put _ _
theorem zqp{i j:Nat}(hi:i<257)(hj:j<257)(hc:cd i=cd j)(hl:ln i=ln j):i=j:=by
 have key:∀{i j:Nat},i<257→j<257→ln i=ln j→i<j→cd i<cd j:=by
  intro i j hi hj hl hlt
  unfold cd
  rw[←hl]
  have h1:=za6 hi (ln i)
  rw[if_pos rfl] at h1
  have h2:(j3.take (i+1)).count (ln i)≤(j3.take j).count (ln i):=by
   have:j3.take (i+1)=(j3.take j).take (i+1):=by rw[List.take_take];congr 1;omega
   rw[this]
   exact(List.take_sublist _ _).count_le _
  omega
 rcases Nat.lt_trichotomy i j with h|h|h
 ·have:=key hi hj hl h;omega
 ·exact h
 ·have:=key hj hi hl.symm h;omega
theorem J0{i:Nat}(hi:i<257):cd i<4294967296:=by have:=zt0 hi;omega
theorem Xm{i:Nat}(hi:i<257):ln i<9223372036854775808:=by have:=J1 i hi;omega
theorem zj4{x n:Nat}(hx:x<4294967296)(hn:n<9223372036854775808):∀k,k≤257→(∀i,i<k→¬(cd i=x∧ln i=n))→has (Jf k) (kL x n)=false
 |0,_,_=>rfl
 |k+1,hk,h=>by
  have hne:kL x n≠kL (cd k) (ln k):=λe=>by
   obtain⟨e1,e2⟩:=znv hx hn (J0 (by omega)) (Xm (by omega)) e
   exact h k (by omega) ⟨e1.symm,e2.symm⟩
  rw[Jf,has_put_other hne]
  exact zj4 hx hn k (by omega) λi hi=>h i (by omega)
theorem zmm{x n:Nat}(hx:x<4294967296)(hn:n<9223372036854775808):WideAt.IsKeyLit (kL x n):=X0.key (zah hx hn)
theorem zhw{i:Nat}(hi:i<257)(z:DataW Unit):∀k,k≤257→i<k→has (Jf k) (kL (cd i) (ln i))=true∧(Jf k).atKey (kL (cd i) (ln i)) z=.lit (.int .i64 (i:Int))
 |0,_,h=>by omega
 |k+1,hk,h=>by
  by_cases e:i=k
  ·subst e
   rw[Jf]
   exact⟨has_put_same (zi1 _) (zmm (J0 hi) (Xm hi)) _,atKey_put_same (zi1 _) (zmm (J0 hi) (Xm hi)) _ _⟩
  ·have hne:kL (cd i) (ln i)≠kL (cd k) (ln k):=λh0=>by
    obtain⟨e1,e2⟩:=znv (J0 hi) (Xm hi) (J0 (show k<257 by omega)) (Xm (show k<257 by omega)) h0
    exact e (zqp hi (by omega) e1 e2)
   rw[Jf,has_put_other hne,atKey_put_other hne]
   exact zhw hi z k (by omega) (by omega)
def MapAt(w:World)(g k:Nat):Prop:=w.ownsMap Tryz.prog 300 (plainElem Tryz.prog 3) g k (Jf k)
section
variable {w w':World}{g k B:Nat}
theorem MapAt.lt(h:MapAt w g k):g<w.heap.size:=World.ownsMap.lt h
theorem MapAt.below(h:MapAt w g k)(hb:Below B w w')(hg:g<B):MapAt w' g k:=by
 obtain⟨es,clock,hk,F,hs,hD⟩:=h
 exact⟨es,clock,(hb.block g hg).trans hk,F,hs,hD⟩
theorem MapAt.setCell(h:MapAt w g k){a:Addr}(hne:g≠a.block)(v:Value):MapAt (w.setCell a v) g k:=by
 obtain⟨es,clock,hk,F,hs,hD⟩:=h
 exact⟨es,clock,(heap_setCell_other w a g v hne).trans hk,F,hs,hD⟩
theorem MapAt.alloc(h:MapAt w g k)(o:Obj):MapAt (w.alloc o) g k:=World.ownsMap.alloc h o
end
theorem zjq(w:World):(zeroValue 3).run Tryz.prog w=.ok (.int .i64 0) w:=by
 cases hi:Tryz.prog.info? 3 with
 |none=>have:=Y8;rw[hi] at this;simp at this
 |some i=>
  have hz:i.zero=some (.int .i64 0):=by have:=Y8;rw[hi] at this;simp at this;exact this.1
  simp[zeroValue,typeInfo,hi,hz]
theorem ztl{w:World}{g i:Nat}(h:MapAt w g 257)(hi:i<257):(Instr.lookup 318 (.map (some g)) (.agg #[.int .u32 (cd i:Int),.int .i64 (ln i:Int)]) true).run Tryz.prog w=.ok (.tuple #[.int .i64 (i:Int),.bool true]) w:=by
 obtain⟨v,ps,hrun,hv⟩:=World.ownsMap.look_ok h X0 Tryz.underlying318 (zjq w) (plainElem_int Tryz.underlying3 (a:=0) (by decide)) (zah (J0 hi) (Xm hi))
 obtain⟨h1,h2⟩:=zhw hi (.lit (.int .i64 0)) 257 (Nat.le_refl _) hi
 rw[h2] at hv
 rw[h1] at hrun
 obtain⟨c,rfl,hc,_⟩:=plainElem_int_inv Tryz.underlying3 hv
 have:(i:Int)=c:=by have:=congrArg Prod.fst hc;simpa using this
 subst this
 exact hrun
theorem zvd{w:World}{g x n:Nat}(h:MapAt w g 257)(hx:x<4294967296)(hn:n<9223372036854775808)(hno:∀i,i<257→¬(cd i=x∧ln i=n)):(Instr.lookup 318 (.map (some g)) (.agg #[.int .u32 (x:Int),.int .i64 (n:Int)]) true).run Tryz.prog w=.ok (.tuple #[.int .i64 0,.bool false]) w:=by
 obtain⟨v,ps,hrun,hv⟩:=World.ownsMap.look_ok h X0 Tryz.underlying318 (zjq w) (plainElem_int Tryz.underlying3 (a:=0) (by decide)) (zah hx hn)
 have h1:=zj4 hx hn 257 (Nat.le_refl _) hno
 rw[atKey_of_not_has h1] at hv
 rw[h1] at hrun
 obtain⟨c,rfl,hc,_⟩:=plainElem_int_inv Tryz.underlying3 hv
 have:(0:Int)=c:=by have:=congrArg Prod.fst hc;simpa using this
 subst this
 exact hrun
end
section
section
variable {S S':Nat→Prop}{w w' w'':World}{v v' v'':Value}
theorem Fs.of_fr{g:Nat}(h:Fr g v.ownBlock w w'):Fs (λk=>k=g∨ob v k) w w':=⟨h.os,h.tape,h.output,h.size,λk hk hn=>h.block k hk (λe=>hn (.inl e)) λe=>hn (.inr e.symm)⟩
theorem Fs.tb(h:Fs S w w'){base g most:Nat}{L:List Fd}(hT:Tb w base g v L most)(hg:¬S g)(hv:∀k,ob v k→¬S k):Tb w' base g v L most:=
 hT.keep (h.block _ hT.lt hg) λk hk=>h.block k (hT.row.lt k hk).2 (hv k hk)
end
end
section
open Go.RowKit Go.WideShapes Go.Maps
theorem zr5(W:World):(Instr.makeMap 318 (some (.int .i64 257))).run Tryz.prog W=.ok (.map (some W.heap.size)) (W.alloc (.map #[] 0)):=by
 simp[Instr.makeMap,Sem.run_bind,run_underlying Tryz.underlying318,asInt]
 rfl
def zxf(w:World)(e:Ending)(w':World):Prop:=∃g,e=.returned (.map (some g))∧w.heap.size≤g∧MapAt w' g 257∧Below w.heap.size w w'
theorem zy0(w:World):Calls Tryz.prog 249 #[] w (zxf w):=by
 have hmk:=zr5
 go_enter Tryz.func249,Tryz.ntmps249
 go_wp2_with fail
 refine(zem _).mono ?_
 rintro e w1 ⟨rfl,hb1⟩
 have hs1:w.heap.size+1≤w1.heap.size:=by have:=hb1.size;simp at this;omega
 have M0:MapAt w1 w.heap.size 0:=(show MapAt (w.alloc (.map #[] 0)) w.heap.size 0 from World.ownsMap_made w _ _ _).below hb1 (by simp)
 have HM:=z2w M0
 have HB:=z2w (((Below.refl _ w).alloc (Nat.le_refl _) (.map #[] 0)).trans (hb1.mono (by simp)))
 clear hb1 M0 hmk
 go_wp2_with fail
 go_loopw [6] (λi wr=>∃k:Nat,k≤257∧i=.int .i64 k∧Hid (MapAt wr w.heap.size k)∧Hid (Below w.heap.size w wr)∧w.heap.size<wr.heap.size)
  (λi _=>257-(intOf i).toNat)
 case atStart=>exact⟨0,by omega,rfl,HM,HB,by omega⟩
 case round=>
  obtain⟨k,hk,rfl,hM,hB,hz⟩:=hrel
  by_cases hlt:k<257
  ·have hidx:=zkm hlt
   have hkey:=zah (J0 hlt) (Xm hlt)
   have hMD:Jf (k+1)=(Jf k).put (kL (cd k) (ln k)) (.lit (.int .i64 (k:Int))):=rfl
   have hval:plainElem (H:=Unit) Tryz.prog 3 (.int .i64 (k:Int))=some (.lit (.int .i64 (k:Int)),[]):=plainElem_int Tryz.underlying3 (by
    have h1:IntKind.i64.min = -9223372036854775808:=rfl
    have h2:IntKind.i64.max=9223372036854775807:=rfl
    simp only[Lit.wf,Bool.and_eq_true,decide_eq_true_eq]
    omega)
   have HMD:=z2w hMD
   have HV:=z2w hval
   have HK:=z2w hkey
   clear hMD hval hkey
   generalize kL (cd k) (ln k)=kl at HMD HK
   generalize cd k=x at hidx HK
   generalize ln k=n at hidx HK
   go_wp2_with (at_mapUpdate;go_loud (refine wpList_mapUpdate_own _ rfl _ _ _ 318 rfl 300 3 X0 Tryz.underlying318 _ w.heap.size k (Jf k) rfl (hM.out.alloc _) (by simp only[maxLen];omega) _ _ kl rfl rfl HK.out _ [] HV.out ?_;intro w2 hown2 hgrow2))
   have hs2:=hgrow2.size
   simp only[World.alloc,Array.size_push] at hs2
   go_roundw
   case rel=>
    refine⟨k+1,by omega,by go_num,?_,?_,by omega⟩
    ·show World.ownsMap _ _ _ _ _ _ (Jf (k+1))
     rw[HMD.out]
     exact hown2
    ·exact(hB.out.alloc (by omega) _).grown hgrow2 (by simp;omega) (λj hj=>by simp at hj;omega)
   case measure=>simp[intOf];omega
  ·obtain rfl:k=257:=by omega
   go_wp2_with fail
   go_ret
   exact⟨_,rfl,Nat.le_refl _,hM.out,hB.out⟩
end
section
attribute [local irreducible] nmL vlL tab
theorem zak{cap:Nat}{L:List Fd}{M:Nat}{out:List Fd}{l:List UInt8}{K:Nat}(hk:xe (l.headD 0).toNat=K) :
  ((zs (qy K) l).2.2≠0→xl cap ⟨L,M,out⟩ l=none)∧
  ((zs (qy K) l).2.2=0→K=32→xl cap ⟨L,M,out⟩ l=if out≠[]∨cap<(zs (qy K) l).1 then none else some (⟨shr ((zs (qy K) l).1:Int) L,(zs (qy K) l).1,out⟩,l.drop (zs (qy K) l).2.1))∧
  ((zs (qy K) l).2.2=0→K=128→xl cap ⟨L,M,out⟩ l=(atT L (zs (qy K) l).1).map λf=>(⟨L,M,out++[f]⟩,l.drop (zs (qy K) l).2.1))∧
  ((zs (qy K) l).2.2=0→K≠32→K≠128→xl cap ⟨L,M,out⟩ l=(jo L (zs (qy K) l).1 (K == 16) (l.drop (zs (qy K) l).2.1)).map λp=>(⟨if K=64 then yw M p.1 L else L,M,out++[p.1]⟩,p.2)):=by
 unfold xl
 simp only[hk]
 refine⟨λh=>if_pos h,λh e=>?_,λh e=>?_,λh e1 e2=>?_⟩
 ·rw[if_neg (by omega),if_pos e]
 ·rw[if_neg (by omega),if_neg (by omega),if_pos e]
  cases atT L (zs (qy K) l).1<;>rfl
 ·rw[if_neg (by omega),if_neg e1,if_neg e2]
  cases jo L (zs (qy K) l).1 (K == 16) (l.drop (zs (qy K) l).2.1) with
  |none=>rfl
  |some p=>obtain⟨f,r⟩:=p;rfl
def blk(cap:Nat)(s:RdK)(l:List UInt8):Option RdK:=xc cap l.length s l
end
end Go.Proofs.YtooaajnkiokpnaaGreatDoor
