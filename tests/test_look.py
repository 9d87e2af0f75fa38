import itertools
import unittest

from eightbytes.refs import look
from tests.reference import parts, reference, scattered

TOP = 2 ** 64
LAST = 2 ** 32 - 1


class LookAtOrdinary(unittest.TestCase):
    def test_every_part_stands_in_its_place(self):
        v = reference(address=0x12345678, upper=0x9A, lower=0x56, power=4, seal=5, rights=0x155)
        # Grain 16, window 4096, lower mark at 0x560 of it: the address is behind the mark in its window.
        self.assertEqual(look(v), [0, 0x12345560, 0x440, 0x12345678, 5, 0x155, 4])

    def test_bytes_as_grains(self):
        v = reference(address=1010, upper=0xFC, lower=0xE8, power=0)
        self.assertEqual(look(v), [0, 1000, 20, 1010, 0, 0, 0])

    def test_a_written_number(self):
        self.assertEqual(look(0x0000_1410_0000_0105), [0, 20, 252, 0x105, 0, 0, 0])
        self.assertEqual(look(0x0081_0408_0000_000A), [0, 8, 8, 10, 0, 1, 1])

    def test_address_at_the_lower_mark(self):
        v = reference(address=0x320, upper=0x30, lower=0x20, power=0)
        self.assertEqual(look(v)[1:3], [0x320, 0x10])

    def test_address_behind_the_end(self):
        v = reference(address=0x3FF, upper=0x30, lower=0x20, power=0)
        self.assertEqual(look(v)[1:3], [0x320, 0x10])


class LookAtEdges(unittest.TestCase):
    def test_address_below_the_lower_mark_belongs_to_the_window_before(self):
        v = reference(address=0x31F, upper=0x30, lower=0x20, power=0)
        self.assertEqual(look(v)[1:3], [0x220, 0x10])

    def test_upper_below_lower(self):
        v = reference(address=0x3F8, upper=0x08, lower=0xF0, power=0)
        self.assertEqual(look(v)[1:3], [0x3F0, 0x18])
        v = reference(address=0x403, upper=0x08, lower=0xF0, power=0)
        self.assertEqual(look(v)[1:3], [0x3F0, 0x18])
        v = reference(address=0x1000, upper=0, lower=255, power=2)
        self.assertEqual(look(v)[1:3], [0xFFC, 4])

    def test_upper_equal_to_lower_is_no_length(self):
        for mark in (0, 1, 128, 255):
            for power in range(16):
                v = reference(address=LAST, upper=mark, lower=mark, power=power)
                self.assertEqual(look(v)[2], 0)

    def test_the_longest(self):
        self.assertEqual(look(reference(upper=255, lower=0, power=0))[2], 255)
        self.assertEqual(look(reference(address=7, upper=6, lower=7, power=0))[2], 255)
        self.assertEqual(look(reference(upper=255, lower=0, power=15))[2], 255 * 2 ** 24)

    def test_power_0(self):
        v = reference(address=0xABCD, upper=0xD0, lower=0xCD, power=0)
        self.assertEqual(look(v), [0, 0xABCD, 3, 0xABCD, 0, 0, 0])

    def test_power_14_is_its_own_grain(self):
        v = reference(address=0x00C0_0001, upper=3, lower=1, power=14)
        self.assertEqual(look(v), [0, 0x0080_4000, 0x8000, 0x00C0_0001, 0, 0, 14])

    def test_power_15_is_a_grain_of_2_to_the_24(self):
        v = reference(address=0x0400_0000, upper=5, lower=3, power=15)
        self.assertEqual(look(v), [0, 0x0300_0000, 0x0200_0000, 0x0400_0000, 0, 0, 24])

    def test_each_power(self):
        for power in range(15):
            self.assertEqual(look(reference(upper=1, power=power))[2], 2 ** power)
            self.assertEqual(look(reference(upper=1, power=power))[6], power)
        self.assertEqual(look(reference(upper=1, power=15))[2], 2 ** 24)
        self.assertEqual(look(reference(upper=1, power=15))[6], 24)

    def test_beginning_below_0(self):
        self.assertEqual(look(reference(address=0, lower=1, power=0))[1], TOP - 255)
        self.assertEqual(look(reference(address=0, lower=255, power=0))[1], TOP - 1)
        self.assertEqual(look(reference(address=9, lower=10, power=0))[1], TOP - 246)
        self.assertEqual(look(reference(address=0, lower=1, power=14))[1], TOP - 255 * 2 ** 14)
        self.assertEqual(look(reference(address=2 ** 24 - 1, lower=1, power=15))[1], TOP - 255 * 2 ** 24)
        self.assertEqual(look(reference(address=2 ** 24, lower=1, power=15))[1], 2 ** 24)

    def test_address_0(self):
        self.assertEqual(look(reference(address=0, upper=8, power=3)), [0, 0, 64, 0, 0, 0, 3])

    def test_address_last(self):
        v = reference(address=LAST, upper=0, lower=0xF0, power=0)
        self.assertEqual(look(v), [0, 0xFFFF_FFF0, 16, LAST, 0, 0, 0])
        v = reference(address=LAST, upper=4, lower=254, power=15)
        self.assertEqual(look(v), [0, 254 * 2 ** 24, 6 * 2 ** 24, LAST, 0, 0, 24])

    def test_least_and_greatest_reference(self):
        self.assertEqual(look(0), [0, 0, 0, 0, 0, 0, 0])
        self.assertEqual(look(TOP - 1), [0, 255 * 2 ** 24, 0, LAST, 7, 511, 24])

    def test_seals(self):
        for seal in range(8):
            v = reference(address=300, upper=60, lower=40, seal=seal, rights=256)
            self.assertEqual(look(v), [0, 296, 20, 300, seal, 256, 0])

    def test_rights(self):
        for rights in range(512):
            v = reference(address=300, upper=60, lower=40, seal=7, rights=rights)
            self.assertEqual(look(v), [0, 296, 20, 300, 7, rights, 0])


class LookAtMany(unittest.TestCase):
    """What the document says of each answer, asked of references that mix all edges."""

    def check(self, v):
        address, upper, lower, power, seal, rights = parts(v)
        grain = 2 ** 24 if power == 15 else 2 ** power
        answer = look(v)
        self.assertEqual(len(answer), 7)
        begin = answer[1] if answer[1] < TOP // 2 else answer[1] - TOP
        self.assertTrue(0 <= answer[1] < TOP)
        self.assertLessEqual(begin, address)
        self.assertGreater(begin + 256 * grain, address)
        self.assertEqual((begin - lower * grain) % (256 * grain), 0)
        length = upper - lower if upper >= lower else 256 + upper - lower
        self.assertEqual(answer[2], length * grain)
        self.assertEqual(answer[0], 0)
        self.assertEqual(answer[3:6], [address, seal, rights])
        self.assertEqual(2 ** answer[6], grain)

    def test_mixed_edges(self):
        addresses = (0, 1, 255, 256, 2 ** 14, 2 ** 22 - 1, 2 ** 22, 2 ** 24, 2 ** 31 + 12345, LAST)
        marks = (0, 1, 127, 254, 255)
        for address, upper, lower, power in itertools.product(addresses, marks, marks, range(16)):
            with self.subTest(address=address, upper=upper, lower=lower, power=power):
                self.check(reference(address, upper, lower, power, upper % 8, lower + 256))

    def test_scattered(self):
        for v in scattered(3000):
            with self.subTest(v=v):
                self.check(v)


if __name__ == "__main__":
    unittest.main()
