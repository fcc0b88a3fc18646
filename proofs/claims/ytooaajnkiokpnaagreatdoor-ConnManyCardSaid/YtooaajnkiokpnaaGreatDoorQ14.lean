/-
  Part of a proof: A slice of bools as an argument. No conditions but those that each theorem names. Conditions: those that each theorem names.
-/
import Derived.Test.YtooaajnkiokpnaaGreatDoorQ01
import Derived.Test.YtooaajnkiokpnaaGreatDoorQ07
import Derived.Test.YtooaajnkiokpnaaGreatDoorQ13
import Derived.Test.YtooaajnkiokpnaaGreatDoorQ04
import Derived.Deep.RegionHeld3
import Derived.Lib.SlBytesConst
import Derived.Laws.ResultCell
import Derived.Deep.Slices
namespace Go.Proofs.YtooaajnkiokpnaaGreatDoor
open Go.RowKit Go.WideShapes
set_option maxHeartbeats 2000000
set_option maxRecDepth 100000
section
theorem zgq:(Tryz.prog.info? 5).map (·.size)=some 1:=by kernel_rfl
theorem SpG.closed{w w2:World}{g b fi la:Nat}{L:List UInt8}{wt:Bool}(h:SpG w g b fi la L wt)(h2:Row w2 b 5 (byc (xm L 0 ((zv L fi la).take 16393))).toArray)(hf:Fs (λk=>k=b) w w2) :
  SpG ((w2.setCell ⟨g,2,none⟩ (.int .i64 ((la-fi:Nat):Int))).setCell ⟨g,1,none⟩ (.int .i64 0)) g b 0 (la-fi) (xm L 0 ((zv L fi la).take 16393)) wt∧zv (xm L 0 ((zv L fi la).take 16393)) 0 (la-fi)=zv L fi la:=by
 have hl:=h.held_len
 have hla:=h.la
 have hlen:=h.len
 have ht:(zv L fi la).take 16393=zv L fi la:=List.take_of_length_le (by omega)
 rw[ht] at h2 ⊢
 refine⟨⟨?_,(h2.stored' h.ne _).stored' h.ne _,h.ne,?_,Nat.zero_le _,by omega,h.lo⟩,?_⟩
 ·exact((hf.row (b:=g) h.ne.symm h.row).stored 2 _).stored 1 _
 ·rw[Ya (by omega),hlen]
 ·have:=zey (L:=L) (m:=zv L fi la) (off:=0) (by omega)
  rw[hl,Nat.zero_add] at this
  unfold zv at this ⊢
  rw[List.drop_zero,Nat.sub_zero,this]
  rfl
theorem zne{w:World}{g b fi la:Nat}{L:List UInt8}{wt:Bool}(h:SpG w g b fi la L wt) :
  Calls Tryz.prog 79 #[.pointer (some ⟨g,0,none⟩)] w λe w'=>e=.returned (.tuple #[])∧∃L',SpG w' g b 0 (la-fi) L' wt∧zv L' 0 (la-fi)=zv L fi la∧Fs (gbS g b) w w':=by
 have hh:=Zn (h.drewN 1)
 have d0:w.drew.cell? ⟨g,0,none⟩=some (.slice (some ⟨b,0,none⟩) 16393 16393):=h.c0
 have H:Hid (SpG w.drew g b fi la L wt):=h.drewN 1
 have HF:Hid (Fs (gbS g b) w w.drew):=(Fs.refl _ w).drewN 1
 have hl:=h.held_len
 have hne:=h.ne
 clear h
 go_enter Tryz.func79,Tryz.ntmps79
 go_wp2_with fail
 refine qg 10 (λw'=>w'.cell? ⟨g,0,none⟩=some (.slice (some ⟨b,0,none⟩) 16393 16393)) (by kernel_rfl) d0 (λhHeld=>?_)
 refine tkE 0 ?_
 refine tkE 1 ?_
 refine tkE 2 ?_
 refine tkE 3 ?_
 refine tkE 4 ?_
 refine tkE 5 ?_
 refine zm (i:=6) (by kernel_rfl) rfl (λK hK=>?_)
 go_simp
 go_at_call 99
 refine hh.mono ?_
 rintro e w2 ⟨A',rfl,hr,_,n,rfl⟩
 have k0:(w.drewN (1+n)).cell? ⟨g,0,none⟩=some (.slice (some ⟨b,0,none⟩) 16393 16393):=d0
 have HR:Hid (RdB (w.drewN (1+n)) w.drew.heap.size A' (zv L fi la)):=hr
 have H2:Hid (SpG (w.drewN (1+n)) g b fi la L wt):=H.out.keep rfl rfl
 have HF2:Hid (Fs (gbS g b) w (w.drewN (1+n))):=⟨HF.out.os,HF.out.tape,HF.out.output,HF.out.size,HF.out.block⟩
 clear hr hh H HF d0 hHeld
 go_simp
 generalize w.drewN (1+n)=w2 at *
 refine hK.out _ _ k0 (λhHeld=>?_)
 clear hK K
 try refine ptk ?_
 refine zm (i:=7) (by kernel_rfl) rfl (λK hK=>?_)
 have hA:Hid ((zv L fi la).take 16393=zv L fi la):=List.take_of_length_le (by have:=H2.out.la;omega)
 rw[←hl]
 refine zc4 rfl (.tmp 6) (.tmp 8) 22 rfl 5 Tryz.underlying22 zgq b 0 16393 16393 (some ⟨b,0,none⟩) A' (zv L fi la) _ L 5 rfl rfl (λ_=>rfl) _ HR.out H2.out.buf (by rw[H2.out.len];omega) (λw3 hb3 hf3=>?_)
 have hn:min (zv L fi la).length 16393=la-fi:=by rw[hl];have:=H2.out.la;omega
 rw[hn]
 have q0:w3.cell? ⟨g,0,none⟩=some (.slice (some ⟨b,0,none⟩) 16393 16393):=(hf3.row (b:=g) hne.symm H2.out.row).cell rfl
 have ht:=Row.thawed (hf3.row (b:=g) hne.symm H2.out.row) 2
 have hc2:w3.cell? ⟨g,2,none⟩=some (.int .i64 (la:Int)):=(hf3.row (b:=g) hne.symm H2.out.row).cell rfl
 have hcl:=H2.out.closed hb3 hf3
 have HC:=z2w hcl
 have HF3:Hid (Fs (gbS g b) w ((w3.setCell ⟨g,2,none⟩ (.int .i64 ((la-fi:Nat):Int))).setCell ⟨g,1,none⟩ (.int .i64 0))):=((HF2.out.trans hf3 (λk _ e=>.inr e)).setCell (g:=g) (λ_=>.inl rfl) 2 _).setCell (g:=g) (λ_=>.inl rfl) 1 _
 have ht1:=Row.thawed ((hf3.row (b:=g) hne.symm H2.out.row).stored 2 (.int .i64 ((la-fi:Nat):Int))) 1
 have hc1:(w3.setCell ⟨g,2,none⟩ (.int .i64 ((la-fi:Nat):Int))).cell? ⟨g,1,none⟩=some (.int .i64 (fi:Int)):=Row.cell ((hf3.row (b:=g) hne.symm H2.out.row).stored 2 (.int .i64 ((la-fi:Nat):Int))) rfl
 have HL:=z2w hl
 generalize xm L 0 ((zv L fi la).take 16393)=L' at *
 clear hcl hb3 hf3 H2 HF2 hA hn hl HR k0
 refine hK.out _ _ q0 (λhHeld=>?_)
 clear hK K
 try refine ptk ?_
 refine tkE 8 ?_
 refine tkE 9 ?_
 refine qh (by kernel_rfl) rfl (by kernel_rfl) (λK hK=>?_)
 go_simp
 refine hK.out _ _ ?_
 clear hK K
 try refine ptk ?_
 go_wp2_with fail
 go_end0
 exact⟨rfl,L',HC.out.1,HC.out.2,HF3.out⟩
theorem SpG.fed{w w2:World}{g b n:Nat}{L x:List UInt8}{wt:Bool}(h:SpG w g b 0 n L wt)(h2:Row w2 b 5 (byc (xm L n (x.take (16393-n)))).toArray)(hf:Fs (λk=>k=b) w w2) :
  SpG (w2.setCell ⟨g,2,none⟩ (.int .i64 ((n+min x.length (16393-n):Nat):Int))) g b 0 (n+min x.length (16393-n)) (xm L n (x.take (16393-n))) wt∧zv (xm L n (x.take (16393-n))) 0 (n+min x.length (16393-n))=zv L 0 n++x.take (16393-n):=by
 have hla:=h.la
 have hlen:=h.len
 have hm:(x.take (16393-n)).length=min x.length (16393-n):=by rw[List.length_take,Nat.min_comm]
 refine⟨⟨(hf.row (b:=g) h.ne.symm h.row).stored 2 _,h2.stored' h.ne _,h.ne,by rw[Ya (by omega),hlen],Nat.zero_le _,by omega,h.lo⟩,?_⟩
 have:=zey (L:=L) (m:=x.take (16393-n)) (off:=n) (by omega)
 rw[hm] at this
 unfold zv
 rw[List.drop_zero,List.drop_zero,Nat.sub_zero,Nat.sub_zero,this]
theorem zno{w:World}{g b fi la:Nat}{L x:List UInt8}{wt:Bool}{A:Option Addr}{c:Nat}(h:SpG w g b fi la L wt)(hx:RdS w (λk=>k<w.heap.size∧k≠g∧k≠b) A (byc x)) :
  Calls Tryz.prog 39 #[.pointer (some ⟨g,0,none⟩),.slice A x.length c] w λe w'=>e=.returned (.int .i64 ((min x.length (16393-(la-fi)):Nat):Int))∧∃la' L',SpG w' g b 0 la' L' wt∧zv L' 0 la'=zv L fi la++x.take (16393-(la-fi))∧Fs (gbS g b) w w':=by
 obtain⟨i0,hi0,hz0,hz1,hz2⟩:=zr qk
 have hb:=Y2 h.c4
 have hc:=zne h
 have HX:=z2w hx
 have hnl:la-fi≤16393:=by have:=h.la;omega
 clear h hx
 generalize la-fi=n at *
 go_enter Tryz.func39,Tryz.ntmps39
 go_wp2_with fail
 refine hb.mono ?_
 rintro e w0 ⟨rfl,rfl⟩
 go_wp2_with fail
 refine hc.mono ?_
 rintro e w1 ⟨rfl,L1,h1,he1,hf1⟩
 have HR:Hid (RdB w1 w1.heap.size A x):=RdB.ofS (hf1.reads HX.out λk hk=>⟨hk.1,λh2=>by rcases h2 with h2|h2;exact hk.2.1 h2;exact hk.2.2 h2⟩) λk hk _=>Nat.lt_of_lt_of_le hk.1 hf1.size
 obtain⟨A2,hcut,hA2⟩:=zhe (P:=Tryz.prog) Tryz.underlying22 hi0 hz1 (A:=some ⟨b,0,none⟩) (n:=16393) (c:=16393) (k:=n) (by omega) hnl
 have H1:Hid (SpG w1.drew g b 0 n L1 wt):=h1.drewN 1
 have HF1:Hid (Fs (gbS g b) w0 w1.drew):=hf1.drewN 1
 have HE1:=z2w he1
 have d0:w1.drew.cell? ⟨g,0,none⟩=some (.slice (some ⟨b,0,none⟩) 16393 16393):=h1.c0
 have d2:w1.drew.cell? ⟨g,2,none⟩=some (.int .i64 (n:Int)):=h1.c2
 clear h1 hf1 he1 hc hb HX
 have hm1:(n:Int)≤16393:=by omega
 go_wp2_with fail
 refine wp_region_held_drew (S:=λw'=>w'.cell? ⟨g,0,none⟩=some (.slice (some ⟨b,0,none⟩) 16393 16393)∧w'.cell? ⟨g,2,none⟩=some (.int .i64 (n:Int))) (by kernel_rfl) ⟨d0,d2⟩ (λhHeld=>?_)
 refine tkH 0 ?_
 refine tkH 1 ?_
 refine tkH 2 ?_
 refine tkH 3 ?_
 refine tkH 4 ?_
 refine tkH 5 ?_
 refine tkH 6 ?_
 refine tkH 7 ?_
 refine tkH 8 ?_
 refine tkH 9 ?_
 refine rdH 10 λK hK=>?_
 refine zc4 rfl (.tmp 18) (.tmp 19) 22 rfl 5 Tryz.underlying22 zgq b n (16393-n) (16393-n) A2 A x c L1 5 rfl rfl (λh0=>by rw[hA2 (by omega)];simp[add_plain]) _ HR.out H1.out.buf (by rw[H1.out.len];omega) (λw3 hb3 hf3=>?_)
 have hfed:=H1.out.fed hb3 hf3
 have HC:=z2w hfed
 have HF3:Hid (Fs (gbS g b) w0 (w3.setCell ⟨g,2,none⟩ (.int .i64 ((n+min x.length (16393-n):Nat):Int)))):=(HF1.out.trans hf3 (λk _ e=>.inr e)).setCell (g:=g) (λ_=>.inl rfl) 2 _
 have hR3:=hf3.row (b:=g) H1.out.ne.symm H1.out.row
 have q0:w3.cell? ⟨g,0,none⟩=some (.slice (some ⟨b,0,none⟩) 16393 16393):=hR3.cell rfl
 have q2:w3.cell? ⟨g,2,none⟩=some (.int .i64 (n:Int)):=hR3.cell rfl
 have ht:=Row.thawed hR3 2
 have hk:min x.length (16393-n)≤16393:=by omega
 have HE:Hid (zv (xm L1 n (x.take (16393-n))) 0 (n+min x.length (16393-n))=zv L fi la++x.take (16393-n)):=by
  show _=_
  rw[hfed.2,HE1.out]
 generalize xm L1 n (x.take (16393-n))=L2 at *
 clear hfed hb3 hf3 hR3 HE1 H1 HF1 HR d0 d2 hcut hA2
 refine hK.out _ _ ⟨q0,q2⟩ (λhHeld=>?_)
 clear hK K
 generalize hmk:min x.length (16393-n)=k at *
 have HM:=z2w hmk
 clear hmk
 try refine ptk ?_
 refine tkH 11 ?_
 refine dnH ?_
 clear hHeld
 rw[show ((n+k:Nat):Int)=(n:Int)+(k:Int) by omega] at HC HF3
 go_wp2_with fail
 go_ret
 rw[HM.out]
 exact⟨rfl,_,L2,HC.out.1,HE.out,HF3.out⟩
end
section
theorem Vi(L:List UInt8)(k:Nat):zv L k k=[]:=by unfold zv;rw[Nat.sub_self,List.take_zero]
theorem zdz(w:World)(p:Bool)(hG:GlobE w) :
  Calls Tryz.prog 49 #[.bool p] w λe w'=>∃g,e=.returned (.pointer (some ⟨g,0,none⟩))∧∃b,SpG w' g b 0 0 (List.replicate 16393 0) p∧w.heap.size≤g∧w.heap.size≤b∧Below w.heap.size w w':=by
 obtain⟨i0,hi0,hz0,hz1,hz2⟩:=zr qk
 have hmk:∀W:World,(Instr.makeSlice 22 (.int .i64 16393) (.int .i64 16393)).run Tryz.prog W=.ok (.slice (some ⟨W.heap.size,0,none⟩) 16393 16393) (W.alloc (.cells (madeCells #[Value.int .u8 0] 16393) 5)):=λW=>by
  have:=run_make (P:=Tryz.prog) W 22 5 i0 (.int .u8 0) Tryz.underlying22 hi0 hz0 .i64 .i64 16393 16393 (by omega) (by omega) (by rw[hz2];omega) (by omega)
  rw[this,hz1,Nat.mul_one]
  rfl
 have hMC:(madeCells #[Value.int .u8 0] 16393).toList=byc (List.replicate 16393 0):=zc7 16393
 have hlt:=jf hG
 have HL:Hid ((List.replicate 16393 (0:UInt8)).length=16393):=List.length_replicate
 generalize madeCells #[Value.int .u8 0] 16393=MC at *
 generalize List.replicate 16393 (0:UInt8)=L at *
 obtain rfl:MC=(byc L).toArray:=by rw[←hMC,Array.toArray_toList]
 clear hMC hG
 go_enter Tryz.func49,Tryz.ntmps49
 go_wp2_with fail
 go_ret
 refine⟨w.heap.size+1,rfl,w.heap.size,⟨?_,?_,by omega,HL.out,Nat.le_refl _,by omega,by omega,by omega⟩,by omega,Nat.le_refl _,((Below.refl _ _).alloc (Nat.le_refl _) _).alloc (by simp) _⟩
 ·exact Row.made _ _ _ (by simp)
 ·exact(Row.new w _ _).alloc _
def MkRow(w:World)(g:Nat)(l:List UInt8):Prop:=w.heap[g]?=some (.cells (byc l).toArray 5 (l.length,l.length+1))
theorem MkRow.cell{w:World}{g:Nat}{l:List UInt8}(h:MkRow w g l)(j:Nat):w.cell? ⟨g,j,none⟩=(byc l)[j]?:=by
 unfold World.cell?
 rw[show w.heap[g]?=_ from h]
 simp
theorem MkRow.lt{w:World}{g:Nat}{l:List UInt8}(h:MkRow w g l):g<w.heap.size:=(Array.getElem?_eq_some_iff.1 h).1
theorem MkRow.keep{w w':World}{g:Nat}{l:List UInt8}(h:MkRow w g l)(hg:w'.heap[g]?=w.heap[g]?):MkRow w' g l:=hg.trans h
theorem MkRow.below{w w':World}{g B:Nat}{l:List UInt8}(h:MkRow w g l)(hb:Below B w w')(hg:g<B):MkRow w' g l:=(hb.block g hg).trans h
theorem MkRow.reads{w:World}{g B:Nat}{l:List UInt8}(h:MkRow w g l)(hB:g<B):RdB w B (some ⟨g,0,none⟩) l:=λ_=>⟨g,0,rfl,hB,λj hj=>by
 rw[Nat.zero_add,h.cell,Qb hj]⟩
section
variable {P:Program}
theorem zii(w:World)(base:Nat)(t e:TypeId)(i:TypeInfo)(ht:P.underlying t=some (.slice e))(hi:P.info? e=some i)(hz:i.zero=some (.int .u8 0))(hsize:i.size=1)(hby:i.bytes=1)
  {g g2 o2:Nat} {l m:List UInt8} {c B:Nat} (hl:RdB w B (some ⟨g,0,none⟩) l) (hm:RdB w B (some ⟨g2,o2,none⟩) m) (hm0:0<m.length) (h63:l.length+m.length≤1099511627776) (hbase:base≤w.heap.size) :
  ∃c' w',(∀ty,(Builtin.append_ #[t,t] ty #[.slice (some ⟨g,0,none⟩) l.length l.length,.slice (some ⟨g2,o2,none⟩) m.length c]).run P w=.ok (.slice (some ⟨w.heap.size,0,none⟩) (l++m).length c') w')∧Bo w' base e (.slice (some ⟨w.heap.size,0,none⟩) (l++m).length c') (l++m)∧Below w.heap.size w w':=by
 have hr:=λty=>run_append_grow (P:=P) (w:=w) t ty e i (.int .u8 0) ht hi hz ⟨g,0,none⟩ l.length l.length (byc l) (by rw[hsize];simp[qi]) hl.adds ⟨g2,o2,none⟩ m.length c (byc m) (by rw[hsize];simp[qi]) hm.adds (by omega) (by omega) (by rw[hby];exact growslice_fits (by omega) (by omega))
 have hge:=grownCap_ge w (l.length+m.length) l.length e
 have hcm:grownCap w (l.length+m.length) l.length e≤maxLen:=grownCap_le_maxLen w _ _ e (by simp only[maxLen];omega)
 have hz1:(Value.int IntKind.u8 0).cells.size=1:=rfl
 refine⟨_,_,by rw[List.length_append];exact hr,⟨by simp[qi],.inr ⟨w.heap.size,0,_,_,rfl,hbase,heap_alloc_new w.drew _,by rw[List.length_append];exact hge,hcm,?_,?_⟩⟩,⟨rfl,rfl,rfl,by simp,λk hk=>Below.heap_alloc w.drew _ k hk⟩⟩
 ·simp only[Array.size_append,List.size_toArray,size_zeroCells,hz1,qi]
  omega
 ·simp only[List.drop_zero,Array.toList_append,List.append_assoc]
  rw[←List.append_assoc,←Z3,Nat.mul_one,←qi (l++m)]
  exact List.take_left
end
theorem zic(w:World) :
  Calls Tryz.prog 57 #[] w λe w'=>e=.returned (.slice (some ⟨w.heap.size,0,none⟩) 24 24)∧MkRow w' w.heap.size qo∧Below w.heap.size w w':=by
 have hg:(byc qo).toArray=#[.int .u8 80,.int .u8 82,.int .u8 73,.int .u8 32,.int .u8 42,.int .u8 32,.int .u8 72,.int .u8 84,.int .u8 84,.int .u8 80,.int .u8 47,.int .u8 50,.int .u8 46,.int .u8 48,.int .u8 13,.int .u8 10,.int .u8 13,.int .u8 10,.int .u8 83,.int .u8 77,.int .u8 13,.int .u8 10,.int .u8 13,.int .u8 10]:=rfl
 have hcv:=λ(w:World) (C:Array Value) (n c:Nat)=>Lib.run_convert_bytes_const (P:=Tryz.prog) w 22 5 C n c Tryz.underlying22 Tryz.underlying5
 go_enter Tryz.func57,Tryz.ntmps57
 go_wp2_with fail
 go_ret
 refine⟨rfl,?_,(Below.refl _ _).alloc (Nat.le_refl _) _⟩
 unfold MkRow
 rw[hg]
 exact heap_alloc_last w _
theorem zsw(l m:List UInt8)(_hl:l.length≤1000000)(hm:m.length≤1000000)(w:World) :
  Calls Tryz.prog 128 #[.string (tb l),.string (tb m)] w λe w'=>e=.returned (.bool (decide (l.take m.length=m)))∧w'=w:=by
 have h1:=Qs l
 have h2:=Qs m
 by_cases hlt:m.length≤l.length
 ·have hcut:=zwc l (m.length:Int) (by omega) (by omega)
  rw[show ((m.length:Int)).toNat=m.length by omega] at hcut
  have he:=zve (l.take m.length) m
  have hdd:decide (m.length≤l.length)=true:=by simp;omega
  unfold tb at *
  go_enter Tryz.func128,Tryz.ntmps128
  go_wp2_with fail
  go_ret
  have hb:(l.take m.length == m)=decide (l.take m.length=m):=by by_cases h:l.take m.length=m<;>simp[h]
  rw[←hb]
  exact⟨rfl,rfl⟩
 ·have hdd:decide (m.length≤l.length)=false:=by simp;omega
  have hd0:decide (l.take m.length=m)=false:=decide_eq_false λe=>by
   have:=congrArg List.length e
   rw[List.length_take] at this
   omega
  unfold tb at *
  rw[hd0]
  go_enter Tryz.func128,Tryz.ntmps128
  go_wp2_with fail
  go_ret
  exact⟨rfl,rfl⟩
theorem zde(l m:List UInt8)(hl:l.length≤1000000)(hm:m.length≤1000000)(w:World) :
  Calls Tryz.prog 100 #[.string (tb l),.string (tb m)] w λe w'=>e=.returned (.bool (decide (l.take m.length=m)))∧w'=w:=by
 have hp:=zsw l m hl hm
 go_enter Tryz.func100,Tryz.ntmps100
 go_wp2_with fail
 refine(hp _).mono ?_
 rintro e w1 ⟨rfl,rfl⟩
 go_wp2_with fail
 go_ret
 exact⟨rfl,rfl⟩
theorem Xd{w:World}{g:Nat}{t:TypeId}{L:List UInt8}(h:Row w g t (byc L).toArray)(j:Nat)(b:UInt8){v:Value}(hv:v=.int .u8 (b.toNat:Int)):Row (w.setCell ⟨g,j,none⟩ v) g t (byc (L.set j b)).toArray:=by
 subst hv
 rw[zuc]
 have:=h.stored j (.int .u8 (b.toNat:Int))
 rwa [List.setIfInBounds_toArray] at this
theorem zd0{B:Nat}{w w':World}(h:Below B w w'){k:Nat}(hk:B≤k)(i j m:Nat)(x y z:Value):Below B w (((w'.setCell ⟨k,i,none⟩ x).setCell ⟨k,j,none⟩ y).setCell ⟨k,m,none⟩ z):=
 ((h.setCell (p:=⟨k,i,none⟩) hk x).setCell (p:=⟨k,j,none⟩) hk y).setCell (p:=⟨k,m,none⟩) hk z
theorem zzf{l:List UInt8}(h:9≤l.length):(((xm (List.replicate 16394 0) 0 ((l.take 9).take 16394)).set 0 0).set 1 64).set 2 1=zbs l:=by
 obtain⟨a0,a1,a2,r,rfl⟩:∃a0 a1 a2 r,l=a0 :: a1 :: a2 :: r:=by
  match l,h with
  |a0 :: a1 :: a2 :: r,_=>exact⟨_,_,_,_,rfl⟩
 have hl:((a0 :: a1 :: a2 :: r).take 9).length=9:=by simp at h ⊢;omega
 rw[List.take_of_length_le (l:=(a0 :: a1 :: a2 :: r).take 9) (by omega)]
 unfold xm zbs
 rw[hl,List.drop_replicate]
 rfl
theorem zvb{w:World}{A:Option Addr}{c:Nat}{l:List UInt8}(hr:RdB w w.heap.size A l)(h9:9≤l.length)(hc:l.length≤c) :
  Calls Tryz.prog 127 #[.slice A l.length c] w λe w'=>(∃g,e=.returned (.slice (some ⟨g,0,none⟩) 16394 16394)∧RdB w' w'.heap.size (some ⟨g,0,none⟩) (zbs l))∧Below w.heap.size w w':=by
 obtain⟨i0,hi0,hz0,hz1,hz2⟩:=zr qk
 have hmk:∀W:World,(Instr.makeSlice 22 (.int .i64 16394) (.int .i64 16394)).run Tryz.prog W=.ok (.slice (some ⟨W.heap.size,0,none⟩) 16394 16394) (W.alloc (.cells (madeCells #[Value.int .u8 0] 16394) 5)):=λW=>by
  have:=run_make (P:=Tryz.prog) W 22 5 i0 (.int .u8 0) Tryz.underlying22 hi0 hz0 .i64 .i64 16394 16394 (by omega) (by omega) (by rw[hz2];omega) (by omega)
  rw[this,hz1,Nat.mul_one]
  rfl
 have hMC:(madeCells #[Value.int .u8 0] 16394).toList=byc (List.replicate 16394 0):=zc7 16394
 have HE:=z2w (zzf h9)
 have HL:Hid ((List.replicate 16394 (0:UInt8)).length=16394):=List.length_replicate
 generalize madeCells #[Value.int .u8 0] 16394=MC at *
 generalize List.replicate 16394 (0:UInt8)=L at *
 obtain rfl:MC=(byc L).toArray:=by rw[←hMC,Array.toArray_toList]
 obtain⟨hcut,hR9⟩:=xi (P:=Tryz.prog) Tryz.underlying22 hi0 hz1 (hr.alloc (Nat.le_refl _) (.cells (byc L).toArray 5)) hc (k:=9) h9
 have HR9:=z2w hR9
 have HR:Hid (Row (w.alloc (.cells (byc L).toArray 5)) w.heap.size 5 (byc L).toArray):=Row.new w _ _
 have HB:Hid (Below w.heap.size w (w.alloc (.cells (byc L).toArray 5))):=(Below.refl _ _).alloc (Nat.le_refl _) _
 clear hMC hr hR9
 have h9l:(l.take 9).length=9:=by rw[List.length_take];omega
 obtain⟨w3,hcp,hb3,hf3⟩:=zfb (P:=Tryz.prog) (w:=w.alloc (.cells (byc L).toArray 5)) Tryz.underlying22 zgq (b:=w.heap.size) (off:=0) (dLen:=16394) (dCap:=16394) (dp:=some ⟨w.heap.size,0,none⟩) (sCap:=c) (λ_=>rfl) HR9.out HR.out (by rw[HL.out];omega)
 rw[h9l,show ((min 9 16394:Nat):Int)=9 from rfl] at hcp
 have HB3:=z2w (HB.out.trans (hf3.below (B:=w.heap.size) (λk hk _=>by rw[hk];omega) (by simp)))
 have hL3:(xm L 0 ((l.take 9).take 16394)).length=16394:=by rw[Ya (by rw[List.length_take,h9l,HL.out];omega),HL.out]
 generalize xm L 0 ((l.take 9).take 16394)=M at *
 have r1:=Xd hb3 0 0 (v:=.int .u8 0) rfl
 have r2:=Xd r1 1 64 (v:=.int .u8 64) rfl
 have r3:=Xd r2 2 1 (v:=.int .u8 1) rfl
 have cc:∀(Z:List UInt8) (W:World),Z.length=16394→Row W w.heap.size 5 (byc Z).toArray→∀j,j<16394→∃z:Nat,W.cell? ⟨w.heap.size,j,none⟩=some (.int .u8 (z:Int)):=λZ W hZ hW j hj=>⟨_,hW.cell (by simpa using Qb (show j<Z.length by omega))⟩
 obtain⟨z0,k0⟩:=cc _ _ hL3 hb3 0 (by omega)
 obtain⟨z1,k1⟩:=cc _ _ (by simpa using hL3) r1 1 (by omega)
 obtain⟨z2,k2⟩:=cc _ _ (by simpa using hL3) r2 2 (by omega)
 have t0:=Row.thawed hb3 0
 have t1:=Row.thawed r1 1
 have t2:=Row.thawed r2 2
 have HR3:=z2w r3
 have HF3:=z2w (zd0 HB3.out (k:=w.heap.size) (Nat.le_refl _) 0 1 2 (.int .u8 0) (.int .u8 64) (.int .u8 1))
 clear cc r1 r2 r3 hL3 hb3 hf3 HB HR HR9
 go_enter Tryz.func127,Tryz.ntmps127
 go_wp2_with fail
 go_ret
 refine⟨⟨w.heap.size,rfl,?_⟩,HF3.out⟩
 rw[←HE.out]
 exact λ_=>⟨w.heap.size,0,rfl,HR3.out.lt,λj hj=>by
  rw[Nat.zero_add]
  exact HR3.out.cell (by simpa using Qb hj)⟩
end
section
theorem va:(Tryz.prog.info? 57).map (·.size)=some 3:=by kernel_rfl
theorem zax{k:Nat}(h:k<61)(W:World):(Instr.index 271 (.agg J3) (.int .i64 (k:Int))).run Tryz.prog W=.ok (.agg #[tx (nmL k),tx (vlL k),.bool false]) W:=by
 cases hi:Tryz.prog.info? 57 with
 |none=>have:=va;rw[hi] at this;simp at this
 |some i=>
  have hs:=va
  rw[hi] at hs
  simp at hs
  rw[vq Tryz.underlying271 i hi _ Tryz.underlying57 rfl .i64 k h W,hs,zm3 h]
  rfl
theorem zrh(a b:List UInt8)(w:World):Calls Tryz.prog 178 #[tx a,tx b] w λe w'=>e=.returned (.tuple #[.int .i64 (j9 a b:Int),.bool (Qm a b)])∧Below w.heap.size w w':=by
 unfold tx
 go_enter Tryz.func178,Tryz.ntmps178
 go_wp2_with fail
 refine(zc9 _).mono ?_
 rintro e w1 ⟨rfl,hb1⟩
 have HB1:=z2w hb1
 clear hb1
 go_wp2_with fail
 go_loopw [6,10] (λnd i wr=>∃(n' i':Nat),i'≤61∧i=.int .i64 i'∧nd=.int .i64 n'∧n'≤61∧Hid (n'=first (isN a) i')∧Hid (first (isB a b) i'=0)∧Hid (Below w.heap.size w wr))
  (λ_ i _=>61-(intOf i).toNat)
 case atStart=>exact⟨0,0,by omega,rfl,rfl,by omega,rfl,rfl,HB1⟩
 case round=>
  clear HB1
  obtain⟨n,i,hi,rfl,rfl,hn,hN,hB,hW⟩:=hrel
  by_cases hlt:i<61
  ·have hix:=zax hlt
   unfold tx at hix
   by_cases hn1:nmL i=a
   ·have e1:(nmL i == a)=true:=by rw[hn1,beq_self_eq_true]
    have hA:isN a i=true:=by simp[isN,hn1]
    by_cases hv1:vlL i=b
    ·have e2:(vlL i == b)=true:=by rw[hv1,beq_self_eq_true]
     have hF:=zv4 hlt hB.out (zz0 hA hv1)
     have HF:=z2w hF
     clear hn1 hv1 hF hA
     go_wp2_with fail
     go_ret2
     refine⟨?_,?_⟩
     ·rw[HF.out.1,HF.out.2];rfl
     ·exact hW.out.alloc hW.out.size _
    ·have e2:(vlL i == b)=false:=by rw[beq_eq_false_iff_ne];exact hv1
     have hB2:Hid (first (isB a b) (i+1)=0):=by
      show _=_
      rw[Z2 (zwy hv1)]
      exact hB.out
     by_cases hn0:n=0
     ·have hN2:Hid (i+1=first (isN a) (i+1)):=by
       show _=_
       rw[Xx (by rw[←hN.out];exact hn0) hA]
      clear hn1 hv1 hA hN hB
      subst hn0
      go_wp2_with fail
      go_roundw
      case rel=>exact⟨i+1,i+1,by omega,by go_num,by go_num,by omega,hN2,hB2,hW.out.alloc hW.out.size _⟩
      case measure=>simp[intOf];omega
     ·have hN2:Hid (n=first (isN a) (i+1)):=by
       show _=_
       rw[zcu (by rw[←hN.out];exact hn0)]
       exact hN.out
      have e3:((n:Int) == 0)=false:=by rw[beq_eq_false_iff_ne];omega
      clear hn1 hv1 hA hN hB
      go_wp2_with fail
      go_roundw
      case rel=>exact⟨n,i+1,by omega,by go_num,rfl,hn,hN2,hB2,hW.out.alloc hW.out.size _⟩
      case measure=>simp[intOf];omega
   ·have e1:(nmL i == a)=false:=by rw[beq_eq_false_iff_ne];exact hn1
    have hA:isN a i=false:=by simp[isN,hn1]
    have hB2:Hid (first (isB a b) (i+1)=0):=by
     show _=_
     rw[Z2 (zy1 hA)]
     exact hB.out
    have hN2:Hid (n=first (isN a) (i+1)):=by
     show _=_
     rw[Z2 hA]
     exact hN.out
    clear hn1 hA hN hB
    go_wp2_with fail
    go_roundw
    case rel=>exact⟨n,i+1,by omega,by go_num,rfl,hn,hN2,hB2,hW.out.alloc hW.out.size _⟩
    case measure=>simp[intOf];omega
  ·obtain rfl:i=61:=by omega
   have hF:=zr6 hB.out
   rw[←hN.out] at hF
   have HF:=z2w hF
   clear hF
   go_wp2_with fail
   go_ret2
   refine⟨?_,hW.out⟩
   rw[HF.out.1,HF.out.2]
   rfl
theorem Qa(cs:Array Value)(h:cs.size=3):(Tryz.prog.info? 57).map (·.size)=some cs.size:=by rw[h];exact va
theorem Qt{fn:Func}{p u:Tmp}(h:fn.results=#[.cell p 57,.tmp u])(tmps:Array Value)(w:World)(g:Nat)(cs:Array Value)(hp:tmps.getD p undef=.pointer (some ⟨g,0,none⟩))(hR:Row w g 57 cs)(hc:cs.size=3) :
  (results fn tmps).run Tryz.prog w=.ok (.tuple #[.agg cs,tmps.getD u undef]) w:=by
 rw[results_cell_tmp h,hp]
 simp[asAddr,Result.andThen,run_loadVar_row w g 57 57 cs (0,0) _ hR Tryz.underlying57 rfl (Qa cs hc)]
theorem zza(k:Nat)(hk:k<61)(w:World):Calls Tryz.prog 221 #[.int .i64 ((k:Int)+1)] w λe w'=>e=.returned (.tuple #[.agg #[tx (nmL k),tx (vlL k),.bool false],.bool true])∧Below w.heap.size w w':=by
 have hix:=zax hk
 unfold tx at hix ⊢
 have h1:decide ((k:Int)+1<1)=false:=by simp;omega
 have h2:decide ((61:Int)<(k:Int)+1)=false:=by simp;omega
 go_enter Tryz.func221,Tryz.ntmps221
 go_wp2_with fail
 refine(zc9 _).mono ?_
 rintro e w1 ⟨rfl,hb1⟩
 have HR:=(Row.new w 57 #[.string ⟨#[]⟩,.string ⟨#[]⟩,.bool false]).below hb1 (by simp)
 have HB1:=z2w (((Below.refl w.heap.size w).alloc (Nat.le_refl _) _).trans (hb1.mono (by simp)))
 clear hb1
 go_wp2_with (refine wpList_store_row rfl 57 (.tmp 2) (.tmp 14) rfl w.heap.size #[.string ⟨(nmL k).toArray⟩,.string ⟨(vlL k).toArray⟩,.bool false] rfl rfl 57 _ HR (Qa _ rfl) rfl (by kernel_rfl) ?_)
 refine bodyPost_ret (Qt rfl _ _ w.heap.size _ rfl (HR.setRow _) rfl) rfl ⟨rfl,zd HB1.out _ _ (Nat.le_refl _)⟩
theorem z0d(n:Int)(hn:n<1∨61<n)(w:World):Calls Tryz.prog 221 #[.int .i64 n] w λe w'=>e=.returned (.tuple #[.agg #[tx [],tx [],.bool false],.bool false])∧Below w.heap.size w w':=by
 have hs:n<1∨(decide (n<1)=false∧(61:Int)<n):=by
  by_cases h:n<1
  ·exact .inl h
  ·exact .inr ⟨by simpa using h,by omega⟩
 clear hn
 unfold tx
 rcases hs with h|⟨h,h'⟩
 all_goals
  go_enter Tryz.func221,Tryz.ntmps221
  go_wp2_with fail
  refine bodyPost_ret (Qt rfl _ _ w.heap.size _ rfl (Row.new w _ _) rfl) rfl ⟨rfl,(Below.refl _ _).alloc (Nat.le_refl _) _⟩
theorem Yn(w:World):Calls Tryz.prog 180 #[] w λe w'=>e=.returned (.int .i64 61)∧w'=w:=by
 go_enter Tryz.func180,Tryz.ntmps180
 go_wp2_with fail
 go_ret
 exact⟨rfl,rfl⟩
end
section
structure St where
 tb:Nat
 pu:Bool
 st:Nat
 wn:Nat
 fr:Nat
 hd:Nat
 co:Bool
  deriving DecidableEq
def ju:St:=⟨4096,true,4294967295,65535,16384,4294967295,false⟩
def zS:St:=⟨0,false,0,0,0,0,false⟩
def wrN(s:St)(i v:Nat):Nat:=
 if i=4∧2147483647<v then 3 else if ((i=2∨i=8)∧1<v)∨(i=5∧(v<16384∨16777215<v))∨(i=8∧v=0∧s.co=true) then 1 else 0
def stN(s:St)(i v:Nat):St:=
 if i=1 then { s with tb:=v } else if i=2 then { s with pu:=decide (v=1) } else if i=3 then { s with st:=v } else if i=4 then { s with wn:=v } else if i=5 then { s with fr:=v } else if i=6 then { s with hd:=v }
 else if i=8 then { s with co:=decide (v=1) } else s
def apN(s0:St):St→List (Nat × Nat)→St × Nat
 |o,[]=>(o,0)
 |o,x :: l=>if wrN o x.1 x.2=0 then apN s0 (stN o x.1 x.2) l else (s0,wrN o x.1 x.2)
theorem zyy(s:St)(i v:Nat):wrN s i v=0∨wrN s i v=1∨wrN s i v=3:=by
 unfold wrN
 split
 ·exact .inr (.inr rfl)
 ·split
  ·exact .inr (.inl rfl)
  ·exact .inl rfl
theorem zsi{s0 o:St}{l:List (Nat × Nat)}{k:Nat}(h:k<l.length)(h0:wrN o l[k].1 l[k].2=0):apN s0 o (l.drop k)=apN s0 (stN o l[k].1 l[k].2) (l.drop (k+1)):=by
 rw[List.drop_eq_getElem_cons h,apN,if_pos h0]
theorem zq1{s0 o:St}{l:List (Nat × Nat)}{k:Nat}(h:k<l.length)(h0:wrN o l[k].1 l[k].2≠0):apN s0 o (l.drop k)=(s0,wrN o l[k].1 l[k].2):=by
 rw[List.drop_eq_getElem_cons h,apN,if_neg h0]
theorem zup{s0 o:St}{l:List (Nat × Nat)}:apN s0 o (l.drop l.length)=(o,0):=by rw[List.drop_length];rfl
def xz(n:St)(L:List St):St:=(n :: L)[L.length]'(by simp)
theorem zo9(n:St):xz n []=n:=rfl
theorem zq3(n:St){L:List St}(h:0<L.length):xz n L=L[L.length-1]'(by omega):=by
 unfold xz
 rw[List.getElem_cons,dif_neg (by omega)]
end
section
open Go.ChangeShapes Go.WideShapes Go.RowKit Go.Deep
section
variable {H:Type}{hc:TypeId × Value→H}{P:Program}{α:Type}{enc:α→List Value}{k:Nat}
theorem zow{w:World}{b o len:Nat}(hk:∀x,(enc x).length=k)(h:∀i,i<len→∃y:α,∀r,r<k→w.cell? ⟨b,o+(i*k+r),none⟩=(enc y)[r]?) :
  ∃L:List α,L.length=len∧∀j u,(enl enc L)[j]?=some u→w.cell? ⟨b,o+j,none⟩=some u:=by
 induction len with
 |zero=>exact⟨[],rfl,λj u hj=>by simp[enl] at hj⟩
 |succ n ih=>
  obtain⟨L,hL,hc⟩:=ih (λi hi=>h i (by omega))
  obtain⟨y,hy⟩:=h n (by omega)
  refine⟨L++[y],by simp[hL],λj u hj=>?_⟩
  rw[jq,Zb] at hj
  have hlen:=yi hk L
  rw[hL] at hlen
  by_cases hjl:j<n*k
  ·rw[List.getElem?_append_left (by omega)] at hj
   exact hc j u hj
  ·rw[List.getElem?_append_right (by omega),hlen] at hj
   have hr:j-n*k<k:=by
    have:=(List.getElem?_eq_some_iff.1 hj).1
    rwa [hk] at this
   have:=hy (j-n*k) hr
   rw[show n*k+(j-n*k)=j by omega] at this
   rw[this]
   exact hj
theorem zma{t e:TypeId}(hk:∀x,(enc x).length=k)(hk0:0<k)(ht:P.underlying t=some (.slice e))(hC:P.cellsOf e=k){W:World}
  (hdec:∀(n:Nat) (cs:List Value) (x:DataW H × List MemPlace),DataW.trod hc P W 0 (λ_=>true) true n e cs=some x→∃y:α,cs=enc y)
  {base:Nat} {v:Value} {d:DataW H} {p:List MemPlace} (hv:Value.okWide P W .any base t v) (h:DataW.Trod hc P W 0 (λ_=>true) true t v d p) :
  ∃(A:Option Addr) (c:Nat) (L:List α),v=.slice A L.length c∧L.length≤c∧c≤maxLen∧RdS W (·<W.heap.size) A (enl enc L)∧(L.length=0∨∃E S,d=.slice E S∧E.length=L.length):=by
 obtain⟨a0,len,cap,rfl⟩:=okWide_slice ht hv
 obtain⟨fuel,hf⟩:=h
 rcases open_slice ht hf with ⟨hcs,_⟩|⟨a,len',cap',m,n,D,Pl,hcs,_,hl,hm,hmm,hx,hi⟩
 ·have e:Value.slice a0 len cap=Value.slice none 0 0:=by simpa [Value.cells] using hcs
  injection e with e1 e2 e3
  subst e1 e2 e3
  exact⟨none,0,[],rfl,Nat.le_refl _,Nat.zero_le _,RdS.nil,.inl rfl⟩
 ·have e:Value.slice a0 len cap=Value.slice (some a) len' cap':=by simpa [Value.cells] using hcs
  injection e with e1 e2 e3
  subst e1 e2 e3
  simp only[if_true] at hmm
  obtain⟨b,off,spot⟩:=a
  by_cases h0:len=0
  ·subst h0
   exact⟨some ⟨b,off,spot⟩,cap,[],rfl,by simp,hm,RdS.nil,.inl rfl⟩
  ·have hat:∀i,i<len→∃y:α,∀r,r<k→W.cell? ((⟨b,off,spot⟩:Addr).add (i*k+r))=(enc y)[r]?:=by
    intro i hil
    obtain⟨cs',hcells,htr⟩:=hi i (by omega)
    obtain⟨y,rfl⟩:=hdec n cs' _ htr
    obtain⟨_,_,hget⟩:=World.cells?_some hcells
    refine⟨y,λr hr=>?_⟩
    have:=hget r (by rw[hC];exact hr)
    rw[hC] at this
    rw[←this,←Go.Deep.add_add]
   have hspot:spot=none:=by
    obtain⟨y,hy⟩:=hat 0 (by omega)
    have h1:=hy 0 hk0
    rw[List.getElem?_eq_getElem (by rw[hk];exact hk0)] at h1
    have h2:=World.cell?_spot h1
    simpa [Addr.add] using h2
   subst hspot
   obtain⟨L,hL,hcell⟩:=zow (w:=W) (b:=b) (o:=off) (len:=len) hk (λi hil=>by
    obtain⟨y,hy⟩:=hat i hil
    exact⟨y,λr hr=>by rw[←add_plain];exact hy r hr⟩)
   subst hL
   refine⟨some ⟨b,off,none⟩,cap,L,rfl,hl,hm,λhne=>⟨b,off,rfl,?_,hcell⟩,.inr ⟨_,_,congrArg Prod.fst hx,by simp⟩⟩
   have h1:0<(enl enc L).length:=List.length_pos_iff.2 hne
   exact World.block_lt_of_cell? W _ (hcell 0 _ (List.getElem?_eq_getElem h1))
theorem zmu{t e:TypeId}(hk:∀x,(enc x).length=k)(hk0:0<k)(ht:P.underlying t=some (.slice e))(hC:P.cellsOf e=k){W:World}
  (hdec:∀(n:Nat) (cs:List Value) (x:DataW H × List MemPlace),DataW.trod hc P W 0 (λ_=>true) true n e cs=some x→∃y:α,cs=enc y)
  {base:Nat} {v:Value} {d:DataW H} {p:List MemPlace} (hv:Value.okWide P W .any base t v) (h:DataW.Trod hc P W 0 (λ_=>true) true t v d p) :
  ∃(A:Option Addr) (c:Nat) (L:List α),v=.slice A L.length c∧L.length≤c∧c≤maxLen∧RdS W (·<W.heap.size) A (enl enc L):=by
 obtain⟨A,c,L,h1,h2,h3,h4,_⟩:=zma hk hk0 ht hC hdec hv h
 exact⟨A,c,L,h1,h2,h3,h4⟩
end
end
section
open Go.ChangeShapes Go.WideShapes Go.RowKit Go.Deep
section
variable {H:Type}{hc:TypeId × Value→H}{P:Program}{α:Type}{enc:α→List Value}{k:Nat}
end
structure Hd(W:World)(α:Type)(enc:α→List Value) where
 at_:Option Addr
 room:Nat
 els:List α
 ok:els.length≤room∧room≤maxLen∧RdS W (·<W.heap.size) at_ (enl enc els)
def hdc{W:World}{α:Type}{enc:α→List Value}(h:Hd W α enc):List Value:=[.slice h.at_ h.els.length h.room]
section
variable {H:Type}{hc:TypeId × Value→H}{P:Program}{α:Type}{enc:α→List Value}{k:Nat}
end
end
section
open Go.ChangeShapes Go.WideShapes Go.ChangeAt Go.RowKit Go.Deep
def boc(b:Bool):List Value:=[.bool b]
theorem zv5(b:Bool):(boc b).length=1:=rfl
theorem zux(L:List Bool):enl boc L=L.map .bool:=by
 induction L with
 |nil=>rfl
 |cons b L ih=>rw[Xa,ih];rfl
section
variable {H:Type}{hc:TypeId × Value→H}
theorem zk9:Tryz.prog.cellsOf 4=1:=by kernel_rfl
theorem zl8{W:World}{base:Nat}{v:Value}{d:DataW H}{p:List MemPlace}(hv:Value.okWide Tryz.prog W .any base 71 v)(h:DataW.Trod hc Tryz.prog W 0 (λ_=>true) true 71 v d p) :
  ∃(A:Option Addr) (c:Nat) (L:List Bool),v=.slice A L.length c∧L.length≤c∧c≤maxLen∧RdS W (·<W.heap.size) A (L.map .bool):=by
 obtain⟨A,c,L,h1,h2,h3,h4⟩:=zmu zv5 (by omega) Tryz.underlying71 zk9 (λ_ cs _ h=>by
  obtain⟨b,e0,_⟩:=DataW.trod_bool Tryz.underlying4 h
  exact⟨b,e0⟩) hv h
 rw[zux] at h4
 exact⟨A,c,L,h1,h2,h3,h4⟩
end
end
end Go.Proofs.YtooaajnkiokpnaaGreatDoor
