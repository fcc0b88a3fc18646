/-
  Part of a proof: The program's ring: Shift, by contract. Conditions: those that each theorem names.
-/
import Derived.Test.YtooaajnkiokpnaaGreatDoorQ07
import Derived.Test.YtooaajnkiokpnaaGreatDoorQ25
import Derived.Test.YtooaajnkiokpnaaGreatDoorQ04
import Derived.Test.YtooaajnkiokpnaaGreatDoorQ01
namespace Go.Proofs.YtooaajnkiokpnaaGreatDoor
open Go.RowKit Go.WideShapes
set_option maxHeartbeats 4000000
set_option maxRecDepth 100000
section
theorem zka:(Tryz.prog.info? 138).map (λi=>(i.zero,i.size,i.bytes))=some (some (.pointer none),1,8):=by kernel_rfl
theorem TrL.app{w w4:World}{g q:Nat}{A A':Option Addr}{c c':Nat}{L:List Se}{t:Nat}{W:Int}{e:Se}(h:TrL w g q A c L t W)(hse:SeIn w e)(hnew:∀k,e.fp k→¬TF g q A c L k)
  (hO:OwS w4 0 138 1 (.slice A' (L.length+1) c') (L.length+1) (enl sep L++sep e)) (hF:Fs (ob (.slice A L.length c)) w w4)
  (hN:(Value.slice A' (L.length+1) c').ownBlock=(Value.slice A L.length c).ownBlock∨(Value.slice A' (L.length+1) c').ownBlock=some w.heap.size) :
  TrL (w4.setCell ⟨g,0,none⟩ (.slice A' (L.length+1) c')) g q A' c' (L++[e]) t W∧Fs (TF g q A c L) w (w4.setCell ⟨g,0,none⟩ (.slice A' (L.length+1) c'))∧
  ∀k,TF g q A' c' (L++[e]) k→TF g q A c L k∨e.fp k∨w.heap.size≤k:=by
 have hlen:(L++[e]).length=L.length+1:=by simp
 have hob:∀k,ob (.slice A' (L.length+1) c') k→ob (.slice A L.length c) k∨w.heap.size≤k:=λk hk=>by
  rcases hN with e1|e1
  ·exact .inl (by unfold ob at *;rw[←e1];exact hk)
  ·refine .inr ?_
   unfold ob at hk
   rw[e1] at hk
   injection hk with hk
   omega
 have hgl:=h.r.lt
 have hog:¬ob (.slice A' (L.length+1) c') g:=λhk=>by
  rcases hob g hk with h1|h1
  ·exact h.s_g h1
  ·omega
 have hmem:∀a∈L++[e],SeIn w a∧∀k,a.fp k→k≠g∧k≠q∧¬ob (.slice A L.length c) k:=by
  intro a ha
  rcases List.mem_append.1 ha with ha|ha
  ·exact⟨h.i a ha,λk hk=>⟨λe1=>h.not_g ha (e1▸hk),λe1=>h.not_q ha (e1▸hk),λe1=>h.not_s ha k e1 hk⟩⟩
  ·rw[List.mem_singleton.1 ha]
   exact⟨hse,λk hk=>⟨λe1=>hnew k hk (.inl e1),λe1=>hnew k hk (.inr (.inl e1)),λe1=>hnew k hk (.inr (.inr (.inl e1)))⟩⟩
 refine⟨⟨?_,?_,?_,?_,?_,?_⟩,?_,?_⟩
 ·rw[hlen]
  exact(hF.row h.s_g h.r).stored 0 _
 ·exact(hF.row h.s_q h.n).stored' (a:=⟨g,0,none⟩) (λe1=>h.g_q e1.symm) _
 ·rw[hlen,jq,Zb]
  exact hO.setCell (a:=⟨g,0,none⟩) hog _
 ·intro a ha
  obtain⟨h1,h2⟩:=hmem a ha
  exact(h1.keep λk hk=>hF.block k (h1.lt hk) (h2 k hk).2.2).keep λk hk=>Below.heap_setCell w4 ⟨g,0,none⟩ _ k (h2 k hk).1
 ·have hx:∀(j:Nat) (b:Se),(L++[e])[j]?=some b→L[j]?=some b∨j=L.length∧b=e:=λj b hj=>by
   rw[List.getElem?_append] at hj
   split at hj
   ·exact .inl hj
   ·rw[List.getElem?_singleton] at hj
    split at hj
    ·exact .inr ⟨by omega,(Option.some.inj hj).symm⟩
    ·cases hj
  have hno:∀(j:Nat) (b:Se),L[j]?=some b→∀k,b.fp k→¬e.fp k:=λj b hj k hk h1=>hnew k h1 (TF.of_e (List.mem_of_getElem? hj) hk)
  intro j1 j2 a b ha hb k hka hkb
  rcases hx j1 a ha with h1|⟨h1,rfl⟩<;>rcases hx j2 b hb with h2|⟨h2,rfl⟩
  ·exact h.d j1 j2 a b h1 h2 k hka hkb
  ·exact absurd hkb (hno j1 a h1 k hka)
  ·exact absurd hka (hno j2 b h2 k hkb)
  ·omega
 ·intro a ha e1
  exact((hmem a ha).2 a.p (.inr (.inl rfl))).2.1 e1
 ·exact(hF.mono λk _ hk=>.inr (.inr (.inl hk))).setCell (λ_=>.inl rfl) _ _
 ·intro k hk
  unfold TF at hk
  rw[hlen] at hk
  rcases hk with h1|h1|h1|⟨a,ha,h1⟩
  ·exact .inl (.inl h1)
  ·exact .inl (.inr (.inl h1))
  ·rcases hob k h1 with h2|h2
   ·exact .inl (.inr (.inr (.inl h2)))
   ·exact .inr (.inr h2)
  ·rcases List.mem_append.1 ha with ha|ha
   ·exact .inl (TF.of_e ha h1)
   ·rw[List.mem_singleton.1 ha] at h1
    exact .inr (.inl h1)
def seN(s:Nat)(l:Int)(sb p:Nat):Se:=⟨⟨s,[],false,false,l⟩,sb,p,none,0⟩
theorem zy4{s:Nat}{l:Int}{sb p k:Nat}(h:(seN s l sb p).fp k):k=sb∨k=p:=by
 rcases h with h|h|h
 ·exact .inl h
 ·exact .inr h
 ·cases h
theorem zzm{w:World}{s:Nat}{l:Int}{sb p:Nat}(h1:Row w sb 142 #[.int .u32 s,.slice none 0 0,.bool false,.bool false,.pointer (some ⟨p,0,none⟩)])(h2:Row w p 160 (wnc l 2)):SeIn w (seN s l sb p):=⟨h1,h2,Bo.nil⟩
attribute [local irreducible] Qj rgc fd wnc btw
theorem zf3(left:Int)(w:World):Calls Tryz.prog 56 #[.int .i64 left] w λe w'=>∃g F,e=.returned (.pointer (some ⟨g,0,none⟩))∧Tr w' F g (Jx left)∧(∀k,F k→w.heap.size≤k)∧Below w.heap.size w w':=by
 go_enter Tryz.func56,Tryz.ntmps56
 go_wp2_with fail
 refine(vg left false w).mono ?_
 rintro e w1 ⟨p,rfl,hr,hb,hp⟩
 have hpl:=hr.lt
 have hal:Below w1.heap.size w1 (w1.alloc (.cells #[.slice none 0 0,.int .i64 0,.pointer (some ⟨p,0,none⟩)] 145)):=(Below.refl _ _).alloc (Nat.le_refl _) _
 have HB:=z2w (hb.trans (hal.mono hb.size))
 have hs1:=hb.size
 have HT:Hid (Tr (w1.alloc (.cells #[.slice none 0 0,.int .i64 0,.pointer (some ⟨p,0,none⟩)] 145)) (TF w1.heap.size p none 0 []) w1.heap.size (Jx left)):=
  ⟨p,none,0,[],rfl,⟨by unfold rgc;exact Row.new w1 _ _,hr.below hal hpl,OwS.nil,λe he=>(by cases he),λi j a b ha=>(by simp at ha),λe he=>(by cases he)⟩,rfl⟩
 have HF:Hid (∀k,TF w1.heap.size p none 0 [] k→w.heap.size≤k):=λk hk=>by
  rcases hk with rfl|rfl|hk|⟨e,he,_⟩
  ·exact hs1
  ·exact hp
  ·cases hk
  ·cases he
 clear hr hb hal
 go_wp2_with fail
 go_ret
 exact⟨_,_,rfl,HT.out,HF.out,HB.out⟩
section
variable {w:World}{F:Nat→Prop}{g:Nat}{m:Rm}
theorem znz(h:Tr w F g m)(hm:m.Ok)(hs:m.Sm)(s:Nat)(lf:Int):Calls Tryz.prog 71 #[.pointer (some ⟨g,0,none⟩),.int .u32 s,.int .i64 lf] w (TP w F g (xy m s lf).1 (.bool (xy m s lf).2)):=by
 have HSAME:=λ(w':World) (hb:Below w.heap.size w w') (v:Value)=>zdf (v:=v) h hb
 obtain⟨q,A,c,L,hl,ht,rfl,htl,hL⟩:=h.of hm hs
 have hll:=Yi hl
 unfold xy
 by_cases h0:s=0
 ·rw[if_pos (.inl h0)]
  subst h0
  have HS:=z2w HSAME
  clear ht hl hs hm htl h HSAME
  go_enter Tryz.func71,Tryz.ntmps71
  go_wp2_with fail
  go_ret
  exact HS.out _ (Below.refl _ _) _
 have e0:((s:Int) == 0)=false:=by rw[beq_eq_false_iff_ne];omega
 by_cases hi:fd s m.l<m.l.length
 ·rw[if_pos (.inr hi)]
  have hi':fd s (L.map (·.x))<L.length:=by rw[←hl,←hll];exact hi
  have hx:=List.getElem?_eq_getElem hi'
  have HC:=z2w (zo0 (s:=s) ht (by omega) hx)
  have HS:=z2w HSAME
  clear ht hl hs hm htl h HSAME hi hx
  go_enter Tryz.func71,Tryz.ntmps71
  go_wp2_with fail
  refine HC.out.mono ?_
  rintro r w2 ⟨rfl,hb⟩
  have HP:=z2w (HS.out _ hb (.bool false))
  clear hb HC HS
  go_wp2_with fail
  go_ret
  exact HP.out
 ·rw[if_neg (by rintro(h1|h1);exact h0 h1;exact hi h1)]
  have HC:=z2w (zqt (s:=s) ht (by omega) (by rw[←hl,←hll];exact hi))
  have HT:=z2w ht
  have HL:=z2w hl
  clear ht hl hs hm htl h HSAME hi h0
  go_enter Tryz.func71,Tryz.ntmps71
  go_upto_region 3 with (refine HC.out.mono ?_;rintro r w2 ⟨rfl,hb⟩)
  have HT2:=z2w (HT.out.below hb)
  have HW:=z2w hb
  clear hb HT HC
  obtain⟨i0,hi0,hz0,hz1,hz2⟩:=Ju zka
  have d0:w2.drew.cell? ⟨g,0,none⟩=some (.slice A L.length c):=(jh HT2.out).1
  have hcap:=HT2.out.cap
  refine qg 14 (λw'=>w'.cell? ⟨g,0,none⟩=some (.slice A L.length c)) (by kernel_rfl) d0 (λhHeld=>?_)
  refine tkE 0 ?_
  refine tkE 1 ?_
  refine tkE 2 ?_
  refine tkE 3 ?_
  refine tkE 4 ?_
  refine tkE 5 ?_
  refine tkE 6 ?_
  refine zm (i:=7) (by kernel_rfl) rfl (λK hK=>?_)
  go_simp
  go_at_call 88
  refine(vg lf true w2.drew).mono ?_
  rintro e w3 ⟨p,rfl,hr,hb,hp⟩
  have hb3:Below w2.heap.size w2 w3:=⟨hb.os,hb.tape,hb.output,hb.size,hb.block⟩
  have hp2:w2.heap.size≤p:=hp
  have HT3:=z2w (HT2.out.below hb3)
  have HB3:=z2w hb3
  have HR3:=z2w hr
  have d0:=(jh HT3.out).1
  clear hb hr hb3 hp
  go_simp
  refine hK.out _ _ d0 (λhHeld=>?_)
  clear hK K
  try refine ptk ?_
  refine tkE 8 ?_
  refine zm (i:=9) (by kernel_rfl) rfl (λK hK=>?_)
  go_simp
  have HN4:Hid (Row (w3.alloc (.cells #[.int .u32 s,.slice none 0 0,.bool false,.bool false,.pointer (some ⟨p,0,none⟩)] 142)) w3.heap.size 142 #[.int .u32 s,.slice none 0 0,.bool false,.bool false,.pointer (some ⟨p,0,none⟩)]):=Row.new w3 _ _
  have hal:Below w3.heap.size w3 (w3.alloc (.cells #[.int .u32 s,.slice none 0 0,.bool false,.bool false,.pointer (some ⟨p,0,none⟩)] 142)):=(Below.refl _ _).alloc (Nat.le_refl _) _
  have HT4:=z2w (HT3.out.below hal)
  have HR4:=z2w (HR3.out.below hal HR3.out.lt)
  have HB4:=z2w (HB3.out.trans (hal.mono HB3.out.size))
  have hsb:=HB3.out.size
  have d0:=(jh HT4.out).1
  clear hal HT3 HR3 HB3
  refine hK.out _ _ d0 (λhHeld=>?_)
  clear hK K
  try refine ptk ?_
  generalize w3.alloc (.cells #[.int .u32 s,.slice none 0 0,.bool false,.bool false,.pointer (some ⟨p,0,none⟩)] 142)=w4 at *
  generalize w3.heap.size=sb at *
  refine zm (i:=10) (by kernel_rfl) rfl (λK hK=>?_)
  go_simp
  have hal:Below w4.heap.size w4 (w4.alloc (.cells #[.pointer (some ⟨sb,0,none⟩)] 138)):=(Below.refl _ _).alloc (Nat.le_refl _) _
  have hx5:∀j u,(sep (seN s (btw lf) sb p))[j]?=some u→(w4.alloc (.cells #[.pointer (some ⟨sb,0,none⟩)] 138)).cell? ((⟨w4.heap.size,0,none⟩:Addr).add j)=some u:=λj u hj=>by
   rw[add_plain,Nat.zero_add]
   exact(Row.new w4 138 #[.pointer (some ⟨sb,0,none⟩)]).cell (by simpa [sep,seN] using hj)
  have HT5:=z2w (HT4.out.below hal)
  have HR5:=z2w (HR4.out.below hal HR4.out.lt)
  have HN5:=z2w (HN4.out.below hal HN4.out.lt)
  have HB5:=z2w (HB4.out.trans (hal.mono HB4.out.size))
  have d0:=(jh HT5.out).1
  clear hal HT4 HR4 HB4 HN4
  refine hK.out _ _ d0 (λhHeld=>?_)
  clear hK K
  try refine ptk ?_
  generalize w4.alloc (.cells #[.pointer (some ⟨sb,0,none⟩)] 138)=w5 at *
  generalize w4.heap.size=lb at *
  refine zm (i:=11) (by kernel_rfl) rfl (λK hK=>?_)
  refine Zr rfl (.tmp 23) (.tmp 29) 143 rfl 0 138 i0 _ 1 8 Tryz.underlying143 hi0 hz0 hz1 hz2 rfl (.slice A L.length c) L.length (enl sep L) rfl HT5.out.s ⟨lb,0,none⟩ 1 1 (sep (seN s (btw lf) sb p)) rfl rfl hx5 (zjh _) (by omega) (by simp only[maxLen];omega) (by omega) (Nat.zero_le _) ?_
  intro A6 c6 w6 hO6 hg6 hb6
  have hnew:∀k,(seN s (btw lf) sb p).fp k→w2.heap.size≤k:=λk hk=>by rcases zy4 hk with rfl|rfl<;>omega
  have hse:=zzm HN5.out HR5.out
  obtain⟨hT7,hF7,hN7⟩:=HT5.out.app hse (λk hk h1=>by have:=HT2.out.lt h1;have:=hnew k hk;omega) hO6 (Fs.of_grown hg6) hb6
  have hgo:¬ob (.slice A L.length c) g:=HT5.out.s_g
  have hr6:=(Fs.of_grown hg6).row hgo HT5.out.r
  have d0:w6.cell? ⟨g,0,none⟩=some (.slice A L.length c):=hr6.cell (by unfold rgc;rfl)
  have z0:=hr6.thawed 0
  have HP:Hid (TP w (TF g q A c L) g ⟨m.l++[⟨s,[],false,false,btw lf⟩],m.t,m.w⟩ (.bool true) (.returned (.bool true)) (w6.setCell ⟨g,0,none⟩ (.slice A6 (L.length+1) c6))):=by
   refine⟨rfl,_,⟨q,A6,c6,L++[seN s (btw lf) sb p],?_,hT7,rfl⟩,?_,?_⟩
   ·show m.l++[_]=_
    rw[List.map_append,HL.out]
    rfl
   ·exact(Fs.of_below (HW.out.trans (HB5.out.mono HW.out.size))).trans hF7 λ_ _ h=>h
   ·intro k hk
    have h1:=HW.out.size
    have h2:=HB5.out.size
    rcases hN7 k hk with h3|h3|h3
    ·exact .inl h3
    ·have:=hnew k h3;exact .inr (by omega)
    ·exact .inr (by omega)
  clear hnew hse hT7 hF7 hN7 hgo hr6 hO6 hg6 hb6 HT5 HR5 HN5 HB5 hx5
  refine hK.out _ _ d0 (λhHeld=>?_)
  clear hK K
  try refine ptk ?_
  refine tkE 12 ?_
  refine tkE 13 ?_
  refine qh (by kernel_rfl) rfl (by kernel_rfl) (λK hK=>?_)
  go_simp
  refine hK.out _ _ ?_
  clear hK K
  try refine ptk ?_
  go_wp2_with fail
  go_ret
  exact HP.out
end
end
section
def Se.upB(e:Se)(b:List UInt8)(A:Option Addr)(c:Nat):Se:=⟨{ e.x with b:=b },e.sb,e.p,A,c⟩
def Se.upOv(e:Se)(ov:Bool):Se:=⟨{ e.x with ov:=ov },e.sb,e.p,e.A,e.c⟩
def Se.upLf(e:Se)(l:Int):Se:=⟨{ e.x with lf:=l },e.sb,e.p,e.A,e.c⟩
section
variable {w w':World}{e:Se}
theorem zus(h:Row w e.sb 142 (Qj e))(b:List UInt8)(A:Option Addr)(c:Nat):Row (w.setCell ⟨e.sb,1,none⟩ (.slice A b.length c)) e.sb 142 (Qj (e.upB b A c)):=h.stored 1 _
theorem zs6(h:Row w e.sb 142 (Qj e))(ov:Bool):Row (w.setCell ⟨e.sb,3,none⟩ (.bool ov)) e.sb 142 (Qj (e.upOv ov)):=h.stored 3 _
theorem SeIn.sp(h:SeIn w e):e.sb≠e.p:=h.s.ne_type h.n (by decide)
theorem SeIn.vs(h:SeIn w e):¬ob e.v e.sb:=λhk=>by
 obtain⟨cur,h4⟩:=OwS.row h.b hk
 exact h.s.ne_type h4 (by decide) rfl
theorem SeIn.vp(h:SeIn w e):¬ob e.v e.p:=λhk=>by
 obtain⟨cur,h4⟩:=OwS.row h.b hk
 exact h.n.ne_type h4 (by decide) rfl
theorem SeIn.ov(h:SeIn w e)(ov:Bool):SeIn (w.setCell ⟨e.sb,3,none⟩ (.bool ov)) (e.upOv ov)∧Fs e.fp w (w.setCell ⟨e.sb,3,none⟩ (.bool ov)):=
 ⟨⟨zs6 h.s ov,h.n.stored' (a:=⟨e.sb,3,none⟩) (λe1=>h.sp e1.symm) _,OwS.setCell (a:=⟨e.sb,3,none⟩) h.b h.vs _⟩,(Fs.refl _ _).setCell (λ_=>.inl rfl) _ _⟩
theorem SeIn.by_(h:SeIn w e){b:List UInt8}{A:Option Addr}{c:Nat}(hF:Fs (ob e.v) w w')(hb:Bo w' 0 5 (.slice A b.length c) b)(hN:∀k,ob (.slice A b.length c) k→ob e.v k∨w.heap.size≤k) :
  SeIn (w'.setCell ⟨e.sb,1,none⟩ (.slice A b.length c)) (e.upB b A c)∧Fs e.fp w (w'.setCell ⟨e.sb,1,none⟩ (.slice A b.length c))∧∀k,(e.upB b A c).fp k→e.fp k∨w.heap.size≤k:=by
 have hs:¬ob (.slice A b.length c) e.sb:=λhk=>by
  rcases hN _ hk with h1|h1
  ·exact h.vs h1
  ·have:=h.s.lt;omega
 refine⟨⟨zus (hF.row h.vs h.s) b A c,(hF.row h.vp h.n).stored' (a:=⟨e.sb,1,none⟩) (λe1=>h.sp e1.symm) _,OwS.setCell (a:=⟨e.sb,1,none⟩) hb hs _⟩,(hF.mono λk _ hk=>.inr (.inr hk)).setCell (λ_=>.inl rfl) _ _,λk hk=>?_⟩
 rcases hk with h1|h1|h1
 ·exact .inl (.inl h1)
 ·exact .inl (.inr (.inl h1))
 ·rcases hN k h1 with h2|h2
  ·exact .inl (.inr (.inr h2))
  ·exact .inr h2
end
theorem zhn:(Tryz.prog.info? 5).map (λi=>(i.zero,i.size,i.bytes))=some (some (.int .u8 0),1,1):=by kernel_rfl
attribute [local irreducible] Qj rgc fd wnc btw
section
variable {w:World}{F:Nat→Prop}{g:Nat}{m:Rm}
end
end
section
theorem TP.then{w w1 w':World}{F:Nat→Prop}{g:Nat}{m:Rm}{v v':Value}{e:Ending}(h:TP w F g m v e w1)(hb:Below w1.heap.size w1 w'):TP w F g m v' (.returned v') w':=by
 obtain⟨_,F',hT,hF,hN⟩:=h
 exact⟨rfl,F',hT.keep λk hk=>hb.block k (hT.lts k hk),hF.then_below hb,hN⟩
theorem Tr.no{w:World}{F:Nat→Prop}{g:Nat}{m:Rm}(h:Tr w F g m){p:Nat}{T:TypeId}{cs:Array Value}(hr:Row w p T cs)(h1:T≠145)(h2:T≠160)(h3:T≠138)(h4:T≠142)(h5:T≠5):¬F p:=by
 obtain⟨q,A,c,L,_,ht,rfl⟩:=h
 rintro(rfl|rfl|hk|⟨e,he,hk⟩)
 ·exact hr.ne_type ht.r h1 rfl
 ·exact hr.ne_type ht.n h2 rfl
 ·obtain⟨cur,h6⟩:=OwS.row ht.s hk
  exact hr.ne_type h6 h3 rfl
 ·exact(ht.i e he).not hr h4 (.inl h2) h5 hk
theorem SeIn.lf{w w':World}{e:Se}{l:Int}(h:SeIn w e)(hf:Fs (λk=>k=e.p) w w')(hr:Row w' e.p 160 (wnc l 2)):SeIn w' (e.upLf l)∧Fs e.fp w w':=
 ⟨⟨hf.row h.sp h.s,hr,hf.owns h.b λk hk e1=>h.vp (by rw[←show k=e.p from e1];exact hk)⟩,hf.mono λk _ hk=>.inr (.inl hk)⟩
theorem z00:tdc 0=zy 0 0:=rfl
theorem z03:tdc 1=zy 1 3:=rfl
attribute [local irreducible] Qj rgc fd wnc btw tdc zy
section
variable {w:World}{F:Nat→Prop}{g:Nat}{m:Rm}
end
end
section
structure TsI(w wr:World)(F:Nat→Prop)(g q:Nat)(A:Option Addr)(c n:Nat)(m:Rm)(d:Int)(k:Nat)(L':List Se)(P R:List Sn):Prop where
 t:TrL wr g q A c L' m.t m.w
 f:Fs F w wr
 nw:∀k,TF g q A c L' k→F k∨w.heap.size≤k
 e:L'.map (·.x)=P++R
 pl:P.length=k
 s:shL d m.l=(P++(shL d R).1,(shL d R).2)
 b:Row wr w.heap.size 29 (zy 0 0)
 len:L'.length=n
 lf:zzl R
theorem TsI.tr{w wr:World}{F:Nat→Prop}{g q:Nat}{A:Option Addr}{c n:Nat}{m:Rm}{d:Int}{k:Nat}{L':List Se}{P R:List Sn}(h:TsI w wr F g q A c n m d k L' P R)(W:World)(hk:∀k,TF g q A c L' k→W.heap[k]?=wr.heap[k]?):Tr W (TF g q A c L') g ⟨P++R,m.t,m.w⟩:=
 ⟨q,A,c,L',h.e.symm,h.t.keep hk,rfl⟩
theorem TsI.below{w wr w':World}{F:Nat→Prop}{g q:Nat}{A:Option Addr}{c n:Nat}{m:Rm}{d:Int}{k:Nat}{L':List Se}{P R:List Sn}(h:TsI w wr F g q A c n m d k L' P R)(hb:Below wr.heap.size wr w'):TsI w w' F g q A c n m d k L' P R:=
 ⟨h.t.below hb,h.f.then_below hb,h.nw,h.e,h.pl,h.s,h.b.below hb h.b.lt,h.len,h.lf⟩
theorem TsI.no{w wr:World}{F:Nat→Prop}{g q:Nat}{A:Option Addr}{c n:Nat}{m:Rm}{d:Int}{k:Nat}{L':List Se}{P R:List Sn}(h:TsI w wr F g q A c n m d k L' P R):¬TF g q A c L' w.heap.size:=
 Tr.no (h.tr wr λ_ _=>rfl) h.b (by decide) (by decide) (by decide) (by decide) (by decide)
theorem TsI.post{w wr:World}{F:Nat→Prop}{g q:Nat}{A:Option Addr}{c n:Nat}{m:Rm}{d:Int}{k:Nat}{L':List Se}{P R:List Sn}(h:TsI w wr F g q A c n m d k L' P R){m':Rm}(hm:m'=⟨P++R,m.t,m.w⟩)(v:Value)(x:Array Value):TP w F g m' v (.returned v) (wr.setRow w.heap.size x):=by
 subst hm
 exact⟨rfl,_,h.tr _ λk hk=>setRow_other wr w.heap.size k x (λe=>h.no (e▸hk)),h.f.setRow (λh1=>by omega) x,h.nw⟩
theorem znw{L:List Se}{P R:List Sn}(h:L.map (·.x)=P++R){k:Nat}(hk:P.length=k)(hl:k<L.length):∃e R',L[k]?=some e∧R=e.x :: R':=by
 have hx:=List.getElem?_eq_getElem hl
 have h1:(L.map (·.x))[k]?=some L[k].x:=by rw[List.getElem?_map,hx];rfl
 rw[h,List.getElem?_append_right (by omega),hk,Nat.sub_self] at h1
 cases R with
 |nil=>simp at h1
 |cons y R'=>
  have h2:y=L[k].x:=by simpa using h1
  exact⟨L[k],R',hx,by rw[h2]⟩
theorem zuy{L:List Se}{P R':List Sn}{x:Sn}(h:L.map (·.x)=P++x :: R'){k:Nat}(hk:P.length=k)(e':Se):(L.set k e').map (·.x)=P++[e'.x]++R':=by
 rw[List.map_set,h,List.set_append_right _ _ (by omega),hk,Nat.sub_self,List.set_cons_zero,List.append_assoc]
 rfl
theorem TsI.on{w wr w':World}{F:Nat→Prop}{g q:Nat}{A:Option Addr}{c n:Nat}{m:Rm}{d:Int}{k:Nat}{L':List Se}{P R':List Sn}{e:Se}(h:TsI w wr F g q A c n m d k L' P (e.x :: R')){L0:List Se}(_hF:F=TF g q A c L0)(he:L'[k]?=some e)(hg:¬2147483647<e.x.lf+d)
  (hf:Fs (λb=>b=e.p) wr w') (hr:Row w' e.p 160 (wnc (gwN e.x.lf d) 2)):TsI w w' F g q A c n m d (k+1) (L'.set k (e.upLf (gwN e.x.lf d))) (P++[{ e.x with lf:=gwN e.x.lf d }]) R':=by
 have hem:=List.mem_of_getElem? he
 obtain⟨h1,h2⟩:=(h.t.i e hem).lf hf hr
 have hfp:∀k,(e.upLf (gwN e.x.lf d)).fp k→e.fp k∨wr.heap.size≤k:=λk hk=>.inl hk
 have hs:=h.f.size
 refine⟨h.t.upd he h2 h1 rfl hfp,h.f.trans h2 λb hb hbf=>?_,λb hb=>?_,zuy h.e h.pl _,by simp[h.pl],?_,hf.row (h.b.ne_type (h.t.i e hem).n (by decide)) h.b,by rw[List.length_set];exact h.len,λy hy=>h.lf y (List.mem_cons_of_mem _ hy)⟩
 ·rcases h.nw b (TF.of_e hem hbf) with h3|h3
  ·exact h3
  ·omega
 ·rcases TF.upd he hfp b hb with h3|h3
  ·exact h.nw b h3
  ·exact .inr (by omega)
 ·rw[h.s]
  have:shL d (e.x :: R')=({ e.x with lf:=gwN e.x.lf d } :: (shL d R').1,(shL d R').2):=by rw[shL,if_neg hg]
  rw[this,List.append_assoc]
  rfl
theorem zn1(w:World)(s c:Nat):∃w',(w.alloc (.cells #[.int .u8 0,.int .u32 0] 29)).setRow w.heap.size (zy s c)=w'∧Row (w.alloc (.cells #[.int .u8 0,.int .u32 0] 29)) w.heap.size 29 (zy 0 0)∧Row w' w.heap.size 29 (zy s c)∧Below w.heap.size w w':=zme w s c
attribute [local irreducible] Qj rgc fd wnc btw tdc zy gwN
section
variable {w:World}{F:Nat→Prop}{g:Nat}{m:Rm}
theorem zk3(h:Tr w F g m)(hm:m.Ok)(hs:m.Sm)(a b:Nat)(ha:a<4294967296)(hb:b<4294967296):Calls Tryz.prog 137 #[.pointer (some ⟨g,0,none⟩),.int .u32 a,.int .u32 b] w (TP w F g (Yh m ((b:Int)-a)).1 (.agg (tdc (Yh m ((b:Int)-a)).2))):=by
 obtain⟨q,A,c,L,hml,ht,hF,htl,hL⟩:=h.of hm hs
 unfold Yh
 have HR:=Zx w
 have HB:=Je w
 have HF:=z2w hF
 obtain⟨d,hd⟩:∃d:Int,d=(b:Int)-a:=⟨_,rfl⟩
 rw[←hd]
 have hsh:∀W l z,Row W z 160 (wnc l 2)→(-2147483648≤l∧l≤2147483647)→(2147483647<l+d→Calls Tryz.prog 169 #[.pointer (some ⟨z,0,none⟩),.int .u32 a,.int .u32 b] W λe w'=>e=.returned (.agg (zy 1 3))∧Below W.heap.size W w')∧
   (¬2147483647<l+d→Calls Tryz.prog 169 #[.pointer (some ⟨z,0,none⟩),.int .u32 a,.int .u32 b] W λe w'=>e=.returned (.agg (zy 0 0))∧Row w' z 160 (wnc (gwN l d) 2)∧Fs (λk=>k=z) W w'):=by
  intro W l z h1 h2
  constructor
  ·intro h3
   exact zpt h1 h2 (by omega) (by omega) (by omega)
  ·intro h3
   have h4:=zpa h1 h2 (n:=(a:Int)) (m:=(b:Int)) (by omega) (by omega) (by omega)
   rw[←hd] at h4
   have h5:gwN l d=max (l+d) (-2147483648):=by unfold gwN;rw[if_neg h3]
   rw[h5]
   exact h4
 have HSH:=z2w hsh
 have HI:Hid (TsI w (w.alloc (.cells #[.int .u8 0,.int .u32 0] 29)) F g q A c L.length m d 0 L [] m.l):=
  ⟨ht.below HB.out,Fs.of_below HB.out,λk hk=>.inl (by rw[hF];exact hk),hml.symm,rfl,rfl,HR.out,rfl,hm.lf⟩
 have c0:=(jh (ht.below HB.out)).1
 clear hsh hd ha hb ht hml hm hs h htl hF HR HB
 go_enter Tryz.func137,Tryz.ntmps137
 go_upto_region 1 with fail
 generalize w.alloc (.cells #[.int .u8 0,.int .u32 0] 29)=w1 at *
 go_wp2_with fail
 clear c0
 go_loopw [18] (λi wr=>∃(k:Nat) (L':List Se) (P R:List Sn),k≤L.length∧i=.int .i64 k∧Hid (TsI w wr F g q A c L.length m d k L' P R)) (λi _=>L.length-(intOf i).toNat)
 case atStart=>exact⟨0,L,[],m.l,Nat.zero_le _,rfl,HI⟩
 case round=>
  clear HI
  obtain⟨k,L',P,R,hk,rfl,HI⟩:=hrel
  by_cases hlt:k<L.length
  ·obtain⟨e,R',he,rfl⟩:=znw HI.out.e HI.out.pl (by rw[HI.out.len];exact hlt)
   obtain⟨bb,o,hA,hc,hse,_⟩:=HI.out.t.at he
   subst hA
   obtain⟨_,_,_,_,s4⟩:=yj hse
   have hlf:=HI.out.lf e.x (List.mem_cons_self ..)
   obtain⟨hno,hyes⟩:=HSH.out wr e.x.lf e.p hse.n hlf
   have HE:=z2w he
   clear hse he
   by_cases hg:2147483647<e.x.lf+d
   ·have HC:=z2w (hno hg)
    have hsl:Hid (shL d m.l=(P++e.x :: R',1)):=by
     show _=_
     rw[HI.out.s]
     have:shL d (e.x :: R')=(e.x :: R',1):=by rw[shL,if_pos hg]
     rw[this]
    have hq:=λW=>zjp 1 3 0 0 W
    simp only[show decide ((1:Nat)=0)=false from rfl,Bool.false_and,Bool.not_false] at hq
    clear hno hyes hg hlf
    go_wp2_with fail
    refine HC.out.mono ?_
    rintro r w2 ⟨rfl,hb2⟩
    obtain⟨w3,hw3,u1,u2,u3⟩:=zn1 w2 1 3
    have HI3:=z2w ((HI.out.below hb2).below u3)
    have HW3:=z2w hw3
    have U1:=z2w u1
    have U2:=z2w u2
    clear hb2 hw3 u1 u2 u3 HC s4 hc HI
    go_upto_region 7 with (refine ze (cs:=zy 1 3) rfl _ _ rfl rfl rfl U1.out (Zw _ _ _ _) (jg _ _) ?_)
    rw[HW3.out]
    clear HW3 U1
    generalize w2.heap.size=p2 at *
    have HR:=z2w HI3.out.b
    have HP:=z2w (HI3.out.post (m':=⟨P++e.x :: R',m.t,m.w⟩) rfl (.agg (zy 1 3)) (zy 1 3))
    clear HI3
    go_wp2_with (first|(refine zn rfl 29 _ rfl (zy 0 0) (by kernel_rfl) ?_)|(refine zj rfl _ rfl rfl U2.out (jg _ _) ?_)|(refine ze (cs:=zy 1 3) rfl _ _ rfl rfl rfl HR.out (Zw _ _ _ _) (jg _ _) ?_))
    refine bodyPost_ret (qn rfl _ rfl (HR.out.setRow _) (jg _ _)) rfl ?_
    have:=HP.out
    rw[hsl.out]
    dsimp only
    rw[z03]
    exact this
   ·have HC:=z2w (hyes (by omega))
    have HON:=z2w (λ(w':World) h1 h2=>HI.out.on (L0:=L) HF.out HE.out (by omega) (w':=w') h1 h2)
    have hq:=λW=>zjp 0 0 0 0 W
    simp only[decide_true,Bool.and_self,Bool.not_true] at hq
    clear hno hyes hg hlf
    go_wp2_with fail
    refine HC.out.mono ?_
    rintro r w2 ⟨rfl,hr2,hf2⟩
    have hi2:=HON.out w2 hf2 hr2
    obtain⟨w3,hw3,u1,u2,u3⟩:=zn1 w2 0 0
    have HI3:=z2w (hi2.below u3)
    have HW3:=z2w hw3
    have U1:=z2w u1
    have U2:=z2w u2
    clear hr2 hf2 hi2 hw3 u1 u2 u3 HC s4 hc HI HON
    go_upto_region 7 with (refine ze (cs:=zy 0 0) rfl _ _ rfl rfl rfl U1.out (Zw _ _ _ _) (jg _ _) ?_)
    rw[HW3.out]
    clear HW3 U1
    generalize w2.heap.size=p2 at *
    go_wp2_with (first|(refine zn rfl 29 _ rfl (zy 0 0) (by kernel_rfl) ?_)|(refine zj rfl _ rfl rfl U2.out (jg _ _) ?_))
    go_roundw
    case rel=>exact⟨k+1,_,_,_,by omega,by go_num,HI3⟩
    case measure=>simp[intOf];omega
  ·obtain rfl:k=L.length:=by omega
   have hR:R=[]:=by
    have h1:=congrArg List.length HI.out.e
    rw[List.length_map,List.length_append,HI.out.pl,HI.out.len] at h1
    exact List.eq_nil_of_length_eq_zero (by omega)
   subst hR
   have hsl:Hid (shL d m.l=(P++[],0)):=by
    show _=_
    rw[HI.out.s]
    rfl
   have HR:=z2w HI.out.b
   have HP:=z2w (HI.out.post (m':=⟨P++[],m.t,m.w⟩) rfl (.agg (zy 0 0)) (zy 0 0))
   clear HI
   go_wp2_with (first|(refine zn rfl 29 _ rfl (zy 0 0) (by kernel_rfl) ?_)|(refine ze (cs:=zy 0 0) rfl _ _ rfl rfl rfl HR.out (Zw _ _ _ _) (jg _ _) ?_))
   refine bodyPost_ret (qn rfl _ rfl (HR.out.setRow _) (jg _ _)) rfl ?_
   have:=HP.out
   rw[hsl.out]
   dsimp only
   rw[z00]
   exact this
end
end
end Go.Proofs.YtooaajnkiokpnaaGreatDoor
